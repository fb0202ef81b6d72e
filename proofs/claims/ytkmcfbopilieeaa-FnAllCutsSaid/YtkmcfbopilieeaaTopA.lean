import Derived.Test.YtkmcfbopilieeaaDrawSpoilA
import Derived.Test.YtkmcfbopilieeaaDrawSpoilB
import Derived.Test.YtkmcfbopilieeaaVar
import Derived.Test.YtkmcfbopilieeaaModM
import Derived.RangeFuncNested
import Derived.RangeFuncBound
import Derived.RangeFuncCalls
import Derived.RangeFuncLeaves
import Derived.RangeFuncBox
import Derived.RangeFuncWrites
import Derived.Test.YtkmcfbopilieeaaRow
import Derived.Test.YtkmcfbopilieeaaChunk
import Derived.Sort.CutIn
import Derived.Test.YtkmcfbopilieeaaSeqZ
import Derived.Test.YtkmcfbopilieeaaMatT
import Derived.Test.YtkmcfbopilieeaaGrow
import Derived.Deep.AppendLies
import Derived.Deep.QuietTactic
import Derived.BigQuiet
/-! YtkmcfbopilieeaaDrawSpoil -/
section

namespace Go.Proofs.Ytkmcfbopilieeaa
open Go.RowKit
set_option linter.unusedVariables false

end Go.Proofs.Ytkmcfbopilieeaa

end

/-! YtkmcfbopilieeaaDraw1 -/
section

namespace Go.Proofs.Ytkmcfbopilieeaa
open Go.RowKit
set_option linter.unusedVariables false

/-- The code, as the walks take it. -/
structure CodeIn (B : Nat) (w : World) (a : Option Addr) (bs : List UInt8) : Prop where
  room : bs.length ≤ 1048576
  code : ∀ j (hj : j < bs.length), ∃ b o, a = some ⟨b, o, none⟩ ∧ b < B ∧ w.cell? ⟨b, o + j, none⟩ = some (.int .u8 (bs[j].toNat : Int))
theorem CodeIn.below {B : Nat} {w w' : World} {a : Option Addr} {bs : List UInt8} (h : CodeIn B w a bs) (hb : Below B w w') : CodeIn B w' a bs :=
  ⟨h.room, fun j hj => by
    obtain ⟨b, o, e1, e2, e3⟩ := h.code j hj
    exact ⟨b, o, e1, e2, (hb.cell (p := ⟨b, o + j, none⟩) e2).trans e3⟩⟩

/-- Behind l1New and what is drawn by its cursor nothing that was there has turned. -/
theorem below_new {B : Nat} {w w1 w2 : World} {a : Option Addr} {cap : Nat} {bs : List UInt8} {s : St} (hB : B ≤ w.heap.size) (hg : w.grownBy w1 none) (hd : Drawn B w1 w2 w.heap.size a cap bs s) : Below w.heap.size w w2 :=
  ((Below.refl _ _).grown hg (Nat.le_refl _) (fun k h => by cases h)).grown hd.grown hg.size (fun k h => by cases h; exact Nat.le_refl _)

def drawVarF (bs : List UInt8) : Int := (numF bs (newSt bs)).1
def drawHexF (bs : List UInt8) : List UInt8 := (textF bs (newSt bs) 40).1
theorem drawHexF_length (bs : List UInt8) : (drawHexF bs).length ≤ 40 := by
  rcases hn : textF bs (newSt bs) 40 with ⟨l, s1⟩
  have := textF_length hn (by omega)
  rw [drawHexF, hn]
  simp only
  omega
/-- The text whose beginning may be a Var. -/
def readVarS (bs : List UInt8) : ByteArray × St :=
  (varI (numF bs (newSt bs)).1 ++ (⟨(textF bs (numF bs (newSt bs)).2 4).1.toArray⟩ : ByteArray), (textF bs (numF bs (newSt bs)).2 4).2)
def drawReadVarF (bs : List UInt8) : ByteArray :=
  if (belowF bs (readVarS bs).2 4).1 = 0 then (spoilF bs (belowF bs (readVarS bs).2 4).2 (readVarS bs).1).1 else (readVarS bs).1
theorem varI_size (n : Int) : (varI n).size ≤ 7 := by
  unfold varI
  split
  · rename_i h
    have := varL_len7 (n := n.toNat) (by omega)
    exact this
  · decide
theorem extract_size (t : ByteArray) (i j : Nat) : (t.extract i j).size ≤ t.size := by
  rw [Lib.size_eq, Lib.extract_data, Lib.size_eq]
  simp
  omega
theorem spoilF_size {bs : List UInt8} {s s' : St} {t r : ByteArray} (h : spoilF bs s t = (r, s')) (ht : t.size ≤ 11) : r.size ≤ 100 := by
  have e : r = (spoilF bs s t).1 := by rw [h]
  have hx := fun i j => extract_size t i j
  rw [e, spoilF]
  split
  · rcases hn : textF bs s 3 with ⟨l, s1⟩
    have := textF_length hn (by omega)
    show l.length ≤ 100
    omega
  · split
    · simp only [ByteArray.size_append]
      have h1 := hx 0 (belowF bs s t.size).1.toNat
      have h2 := hx ((belowF bs s t.size).1.toNat + 1) t.size
      omega
    · split
      · simp only [ByteArray.size_append]
        have h1 := hx 0 (belowF bs s t.size).1.toNat
        have h2 := hx (belowF bs s t.size).1.toNat t.size
        have h3 : (⟨#[UInt8.ofNat (byteF bs (belowF bs (belowF bs s t.size).2 4).2).1.toNat]⟩ : ByteArray).size = 1 := rfl
        omega
      · split
        · have h1 := hx 0 (belowF bs s t.size).1.toNat
          simp only
          omega
        · simp only [ByteArray.size_append]
          have h1 := hx 0 (belowF bs s t.size).1.toNat
          have h2 := hx ((belowF bs s t.size).1.toNat + 1) t.size
          have h3 : ∀ c : UInt8, (⟨#[c]⟩ : ByteArray).size = 1 := fun c => rfl
          rw [h3]
          omega
theorem readVarS_size (bs : List UInt8) : (readVarS bs).1.size ≤ 11 := by
  rcases hn : textF bs (numF bs (newSt bs)).2 4 with ⟨l, s1⟩
  have h1 := textF_length hn (by omega)
  have h2 := varI_size (numF bs (newSt bs)).1
  have h3 : (⟨l.toArray⟩ : ByteArray).size = l.length := rfl
  rw [readVarS, hn]
  simp only [ByteArray.size_append, h3]
  omega
theorem drawReadVarF_size (bs : List UInt8) : (drawReadVarF bs).size ≤ 100 := by
  have h1 := readVarS_size bs
  unfold drawReadVarF
  split
  · rcases hs : spoilF bs (belowF bs (readVarS bs).2 4).2 (readVarS bs).1 with ⟨r, s1⟩
    exact spoilF_size hs h1
  · omega

end Go.Proofs.Ytkmcfbopilieeaa

end

/-! YtkmcfbopilieeaaDrawE -/
section

namespace Go.Proofs.Ytkmcfbopilieeaa
open Go.RowKit
set_option linter.unusedVariables false

/-- Block C holds a cursor over a code that lies below B. -/
def Cu (B : Nat) (w : World) (C : Nat) : Prop := ∃ a cap bs s, CurAt B w C a cap bs s
/-- The cursor's block alone was turned; what is new is new. -/
def Turned (B : Nat) (w w' : World) (C : Nat) : Prop := Cu B w' C ∧ w.grownBy w' (some C)
theorem Drawn.turned {B : Nat} {w w' : World} {C : Nat} {a : Option Addr} {cap : Nat} {bs : List UInt8} {s : St} (h : Drawn B w w' C a cap bs s) : Turned B w w' C := ⟨⟨a, cap, bs, s, h.at_⟩, h.grown⟩
theorem Cu.lt {B : Nat} {w : World} {C : Nat} (h : Cu B w C) : C < w.heap.size := by
  obtain ⟨a, cap, bs, s, h⟩ := h
  exact (Array.getElem?_eq_some_iff.1 h.cur).1
theorem Cu.up {B : Nat} {w : World} {C : Nat} (h : Cu B w C) : B ≤ C := by
  obtain ⟨a, cap, bs, s, h⟩ := h
  exact CurAt.up h
theorem Cu.grown {B : Nat} {w w' : World} {C : Nat} {row : Option Nat} (h : Cu B w C) (hg : w.grownBy w' row) (hr : ∀ k, row = some k → B ≤ k ∧ k ≠ C) : Cu B w' C := by
  obtain ⟨a, cap, bs, s, h⟩ := h
  exact ⟨a, cap, bs, s, h.grown hg hr⟩
theorem Cu.alloc {B : Nat} {w : World} {C : Nat} (h : Cu B w C) (o : Obj) : Cu B (w.alloc o) C := h.grown (World.grownBy_alloc w o none) (fun k hk => by cases hk)
theorem grown_of_below {w w' : World} (hb : Below w.heap.size w w') (row : Option Nat) : w.grownBy w' row := ⟨hb.os, hb.tape, hb.output, hb.size, fun b hb' _ => hb.block b hb'⟩
theorem Cu.below {B : Nat} {w w' : World} {C : Nat} (h : Cu B w C) (hb : Below w.heap.size w w') : Cu B w' C := h.grown (grown_of_below hb none) (fun k hk => by cases hk)
theorem Turned.refl {B : Nat} {w : World} {C : Nat} (h : Cu B w C) : Turned B w w C := ⟨h, World.grownBy.refl _ _⟩
theorem Turned.trans {B : Nat} {w w1 w2 : World} {C : Nat} (h : Turned B w w1 C) (k : Turned B w1 w2 C) : Turned B w w2 C := ⟨k.1, grownBy_trans h.2 k.2⟩
/-- Behind a call that makes memory of its own. -/
theorem Turned.then {B : Nat} {w w1 w2 : World} {C : Nat} (h : Turned B w w1 C) (k : Below w1.heap.size w1 w2) : Turned B w w2 C := ⟨h.1.below k, grownBy_trans h.2 (grown_of_below k _)⟩
theorem Turned.alloc {B : Nat} {w w1 : World} {C : Nat} (h : Turned B w w1 C) (o : Obj) : Turned B w (w1.alloc o) C := h.then ((Below.refl _ _).alloc (Nat.le_refl _) o)
theorem Turned.drewN {B : Nat} {w w1 : World} {C : Nat} (h : Turned B w w1 C) (n : Nat) : Turned B w (w1.drewN n) C := h.then ⟨rfl, rfl, rfl, Nat.le_refl _, fun _ _ => rfl⟩
theorem Turned.size {B : Nat} {w w1 : World} {C : Nat} (h : Turned B w w1 C) : w.heap.size ≤ w1.heap.size := h.2.size
theorem Turned.cu {B : Nat} {w w1 : World} {C : Nat} (h : Turned B w w1 C) : Cu B w1 C := h.1
theorem Turned.below {B B' : Nat} {w w' : World} {C : Nat} (h : Turned B w w' C) (hB : B' ≤ w.heap.size) (hC : B' ≤ C) : Below B' w w' :=
  (Below.refl B' w).grown h.2 hB (fun k hk => by cases hk; exact hC)

/-- What a drawing call leaves. -/
def DrewI (P : Int → Prop) (B : Nat) (w : World) (C : Nat) (e : Ending) (w' : World) : Prop := ∃ x, e = .returned (.int .i64 x) ∧ P x ∧ Turned B w w' C
def DrewS (P : ByteArray → Prop) (B : Nat) (w : World) (C : Nat) (e : Ending) (w' : World) : Prop := ∃ x, e = .returned (.string x) ∧ P x ∧ Turned B w w' C
def DrewB (B : Nat) (w : World) (C : Nat) (e : Ending) (w' : World) : Prop := ∃ x, e = .returned (.bool x) ∧ Turned B w w' C

theorem l1New_e (w : World) (a : Option Addr) (cap : Nat) (bs : List UInt8) (hc : CodeIn w.heap.size w a bs) :
    Calls Try.prog 42 #[.slice a bs.length cap] w fun e w' => e = .returned (.pointer (some ⟨w.heap.size, 0, none⟩)) ∧ Cu w.heap.size w' w.heap.size ∧ w.grownBy w' none :=
  (l1New_any w.heap.size w a cap bs (Nat.le_refl _) hc.room hc.code).mono fun e w' ⟨he, h, hg⟩ => ⟨he, ⟨_, _, _, _, h⟩, hg⟩
/-- At an elder bound: a cursor beside another. -/
theorem l1New_eB (B : Nat) (w : World) (a : Option Addr) (cap : Nat) (bs : List UInt8) (hB : B ≤ w.heap.size) (hc : CodeIn B w a bs) :
    Calls Try.prog 42 #[.slice a bs.length cap] w fun e w' => e = .returned (.pointer (some ⟨w.heap.size, 0, none⟩)) ∧ Cu B w' w.heap.size ∧ w.grownBy w' none :=
  (l1New_any B w a cap bs hB hc.room hc.code).mono fun e w' ⟨he, h, hg⟩ => ⟨he, ⟨_, _, _, _, h⟩, hg⟩
theorem l1Byte_e (B : Nat) (w : World) (C : Nat) (hc : Cu B w C) :
    Calls Try.prog 60 #[.pointer (some ⟨C, 0, none⟩)] w (DrewI (fun x => 0 ≤ x ∧ x ≤ 255) B w C) := by
  obtain ⟨a, cap, bs, s, hc⟩ := hc
  rcases hx : byteF bs s with ⟨x, s'⟩
  exact (l1Byte_at B w C a cap bs s s' x hx hc).mono fun e w' ⟨he, hd⟩ => ⟨x, he, byteF_at hx, hd.turned⟩
theorem l1Below_e (B : Nat) (w : World) (C : Nat) (n : Int) (hn : 0 < n) (hc : Cu B w C) :
    Calls Try.prog 44 #[.pointer (some ⟨C, 0, none⟩), .int .i64 n] w (DrewI (fun x => 0 ≤ x ∧ x < n) B w C) := by
  obtain ⟨a, cap, bs, s, hc⟩ := hc
  rcases hx : belowF bs s n with ⟨x, s'⟩
  exact (l1Below_at B w C a cap bs s s' n x hx hc).mono fun e w' ⟨he, hd⟩ => ⟨x, he, belowF_range hx hn, hd.turned⟩
theorem l1Once_e (B : Nat) (w : World) (C : Nat) (n : Int) (hc : Cu B w C) :
    Calls Try.prog 70 #[.pointer (some ⟨C, 0, none⟩), .int .i64 n] w (DrewB B w C) := by
  obtain ⟨a, cap, bs, s, hc⟩ := hc
  rcases hx : belowF bs s n with ⟨x, s'⟩
  exact (l1Once_at B w C a cap bs s s' n x hx hc).mono fun e w' ⟨he, hd⟩ => ⟨x == 0, he, hd.turned⟩
theorem l1PickInt_e (B : Nat) (w : World) (C : Nat) (L m : Nat) (zs : List Int) (P : Int → Prop) (hm : zs.length = m) (hm0 : 0 < m) (hm1 : m ≤ 1000) (hP : ∀ x, x ∈ zs → P x)
    (hc : Cu B w C) (hLC : L ≠ C) (hz : ∀ j, j < m → w.cell? ⟨L, j, none⟩ = some (.int .i64 (zs.getD j 0))) :
    Calls Try.prog 78 #[.pointer (some ⟨C, 0, none⟩), .slice (some ⟨L, 0, none⟩) m m] w (DrewI P B w C) := by
  obtain ⟨a, cap, bs, s, hc⟩ := hc
  rcases hx : belowF bs s m with ⟨x, s'⟩
  obtain ⟨h0, h1⟩ := belowF_range hx (by omega)
  refine (l1PickInt_at B w C a cap bs s s' x L m zs hm hm0 hm1 hx hc hLC hz).mono fun e w' ⟨he, hd⟩ => ⟨_, he, hP _ ?_, hd.turned⟩
  have hl : x.toNat < zs.length := by omega
  simp [List.getD, hl]
/-- A list of numbers that the call has made: what its cells hold. -/
theorem ints_cells (w : World) (zs : List Int) (t : TypeId) (j : Nat) (hj : j < zs.length) : (w.alloc (.cells (zs.map (Value.int .i64)).toArray t)).cell? ⟨w.heap.size, j, none⟩ = some (.int .i64 (zs.getD j 0)) := by
  rw [cell_of_row _ _ _ _ _ _ (heap_alloc_new w _)]
  simp [List.getD, hj]
theorem strs_cells (w : World) (zs : List ByteArray) (t : TypeId) (j : Nat) (hj : j < zs.length) : (w.alloc (.cells (zs.map Value.string).toArray t)).cell? ⟨w.heap.size, j, none⟩ = some (.string (zs.getD j ByteArray.empty)) := by
  rw [cell_of_row _ _ _ _ _ _ (heap_alloc_new w _)]
  simp [List.getD, hj]
theorem spoil_size {bs : List UInt8} {s s' : St} {t r : ByteArray} (h : spoilF bs s t = (r, s')) : r.size ≤ 2 * t.size + 4 := by
  have e : r = (spoilF bs s t).1 := by rw [h]
  have hx := fun i j => extract_size t i j
  rw [e, spoilF]
  split
  · rcases hn : textF bs s 3 with ⟨l, s1⟩
    have := textF_length hn (by omega)
    show l.length ≤ _
    omega
  · split
    · simp only [ByteArray.size_append]
      have h1 := hx 0 (belowF bs s t.size).1.toNat
      have h2 := hx ((belowF bs s t.size).1.toNat + 1) t.size
      omega
    · split
      · simp only [ByteArray.size_append]
        have h1 := hx 0 (belowF bs s t.size).1.toNat
        have h2 := hx (belowF bs s t.size).1.toNat t.size
        have h3 : (⟨#[UInt8.ofNat (byteF bs (belowF bs (belowF bs s t.size).2 4).2).1.toNat]⟩ : ByteArray).size = 1 := rfl
        omega
      · split
        · have h1 := hx 0 (belowF bs s t.size).1.toNat
          simp only
          omega
        · simp only [ByteArray.size_append]
          have h1 := hx 0 (belowF bs s t.size).1.toNat
          have h2 := hx ((belowF bs s t.size).1.toNat + 1) t.size
          have h3 : ∀ c : UInt8, (⟨#[c]⟩ : ByteArray).size = 1 := fun c => rfl
          rw [h3]
          omega
end Go.Proofs.Ytkmcfbopilieeaa

end

/-! YtkmcfbopilieeaaLaws -/
section

namespace Go.Proofs.Ytkmcfbopilieeaa
open Go.RowKit
set_option linter.unusedVariables false

theorem big_no (a : Option Addr) (cap : Nat) (bs : List UInt8) (hroom : bs.length ≤ 1048576) (w : World) :
    Calls Try.prog 12 #[.slice a bs.length cap] w fun e w' => e = .returned (.bool false) ∧ w = w' := by
  have hd : decide (1048576 < (bs.length : Int)) = false := by simp; omega
  go_enter Try.func12, Try.ntmps12
  go_wp2
  go_ret
  exact ⟨rfl, rfl⟩
theorem big_yes (a : Option Addr) (len cap : Nat) (hbig : 1048576 < len) (hm : len ≤ 9223372036854775807) (w : World) :
    Calls Try.prog 12 #[.slice a len cap] w fun e w' => e = .returned (.bool true) ∧ w = w' := by
  have hd : decide (1048576 < (len : Int)) = true := by simp; omega
  go_enter Try.func12, Try.ntmps12
  go_wp2
  go_ret
  exact ⟨rfl, rfl⟩
/-- A slice of bytes that came in, as a code. -/
theorem codeRow (W : World) (x : Addr) (len : Nat) (zs : List Int) (hl : len ≤ zs.length) (hcell : ∀ i, i < zs.length → W.cell? (x.add i) = some (.int .u8 (zs.getD i 0))) (hwz : ∀ n ∈ zs, (Lit.int .u8 n).wf = true) :
    ∃ bs : List UInt8, bs.length = len ∧ ∀ j (hj : j < bs.length), ∃ b o, (some x : Option Addr) = some ⟨b, o, none⟩ ∧ b < W.heap.size ∧ W.cell? ⟨b, o + j, none⟩ = some (.int .u8 (bs[j].toNat : Int)) := by
  refine ⟨(zs.take len).map (fun n => UInt8.ofNat n.toNat), by simp [hl], fun j hj => ?_⟩
  have hj' : j < len := by simpa [hl] using hj
  obtain ⟨b, off, spot⟩ := x
  have hc := hcell j (by omega)
  have hspot : spot = none := by
    have := World.cell?_spot (hcell 0 (by omega))
    simpa [Addr.add] using this
  subst hspot
  rw [Addr.add_lit] at hc
  have hg : zs.getD j 0 = zs[j] := by simp [List.getD, (by omega : j < zs.length)]
  have hb := bounds_u8 (hwz zs[j] (List.getElem_mem _))
  refine ⟨b, off, rfl, World.block_lt_of_cell? W _ hc, ?_⟩
  rw [hc, hg]
  have e : ((zs.take len).map (fun n => UInt8.ofNat n.toNat))[j] = UInt8.ofNat zs[j].toNat := by simp
  rw [e, u8_ofNat_toNat _ (by omega)]
  congr 2
  omega
theorem CodeIn.le {B B' : Nat} {w : World} {a : Option Addr} {bs : List UInt8} (h : CodeIn B w a bs) (hB : B ≤ B') : CodeIn B' w a bs :=
  ⟨h.room, fun j hj => by
    obtain ⟨b, o, e1, e2, e3⟩ := h.code j hj
    exact ⟨b, o, e1, Nat.lt_of_lt_of_le e2 hB, e3⟩⟩
/-- A law over a code that is too long, and over one that is not. -/
theorem law_of (F : FuncId) (w : World) (a : Option Addr) (len cap : Nat) (hm : len ≤ 9223372036854775807)
    (hb : ∃ bs : List UInt8, bs.length = len ∧ ∀ j (hj : j < bs.length), ∃ b o, a = some ⟨b, o, none⟩ ∧ b < w.heap.size ∧ w.cell? ⟨b, o + j, none⟩ = some (.int .u8 (bs[j].toNat : Int)))
    (hbig : 1048576 < len → Calls Try.prog F #[.slice a len cap] w fun e w' => e = .returned (.bool true) ∧ Below w.heap.size w w')
    (hsmall : ∀ bs : List UInt8, CodeIn w.heap.size w a bs → Calls Try.prog F #[.slice a bs.length cap] w fun e w' => e = .returned (.bool true) ∧ Below w.heap.size w w') :
    Calls Try.prog F #[.slice a len cap] w fun e w' => e = .returned (.bool true) ∧ Below w.heap.size w w' := by
  by_cases h : 1048576 < len
  · exact hbig h
  · obtain ⟨bs, rfl, hcode⟩ := hb
    exact hsmall bs ⟨by omega, hcode⟩
end Go.Proofs.Ytkmcfbopilieeaa

end

/-! YtkmcfbopilieeaaCutM -/
section

namespace Go.Proofs.Ytkmcfbopilieeaa
open Go.RowKit
set_option linter.unusedVariables false

/-! ### Right cuts -/
def prevC (l : List Int) (j : Nat) : Int := if j = 0 then 0 else l.getD (j - 1) 0
/-- Rises the cut at a place, and is it below the end? -/
def cutAt (n : Nat) (l : List Int) (j : Nat) : Bool := decide (prevC l j < l.getD j 0) && decide (l.getD j 0 < (n : Int))
def cutsB (n : Nat) (l : List Int) : Bool := (List.range l.length).all (cutAt n l)
def cutsOkB (m : List dOp) (l : List Int) : Bool := modelOkB m && cutsB m.length l
theorem cutAt_has {n : Nat} {l : List Int} {j : Nat} (h : cutAt n l j = true) : prevC l j < l.getD j 0 ∧ l.getD j 0 < (n : Int) := by
  unfold cutAt at h
  simpa using h
theorem cutAt_yes {n : Nat} {l : List Int} {j : Nat} (h1 : prevC l j < l.getD j 0) (h2 : l.getD j 0 < (n : Int)) : cutAt n l j = true := by
  unfold cutAt
  rw [decide_eq_true h1, decide_eq_true h2]
  rfl
theorem cutAt_low {n : Nat} {l : List Int} {j : Nat} (h : l.getD j 0 ≤ prevC l j) : cutAt n l j = false := by
  unfold cutAt
  rw [decide_eq_false (by omega)]
  rfl
theorem cutAt_high {n : Nat} {l : List Int} {j : Nat} (h : (n : Int) ≤ l.getD j 0) : cutAt n l j = false := by
  unfold cutAt
  rw [decide_eq_false (p := l.getD j 0 < (n : Int)) (by omega), Bool.and_false]
theorem prevC_zero (l : List Int) : prevC l 0 = 0 := rfl
theorem prevC_succ (l : List Int) (j : Nat) : prevC l (j + 1) = l.getD j 0 := by
  unfold prevC
  rw [if_neg (by omega), Nat.add_sub_cancel]
theorem cuts_rise {n : Nat} {l : List Int} {k : Nat} (h : ∀ j, j < k → cutAt n l j = true) : ∀ j, j ≤ k → (j : Int) ≤ prevC l j
  | 0, _ => by rw [prevC_zero]; omega
  | j + 1, hj => by
    have h1 := cuts_rise h j (by omega)
    have h2 := (cutAt_has (h j (by omega))).1
    rw [prevC_succ]
    omega
theorem cutsB_no {n : Nat} {l : List Int} {k : Nat} (hk : k < l.length) (h : cutAt n l k = false) : cutsB n l = false := range_some hk h
theorem cutsB_all {n : Nat} {l : List Int} (h : ∀ j, j < l.length → cutAt n l j = true) : cutsB n l = true := range_all h
theorem cutsB_has {n : Nat} {l : List Int} (h : cutsB n l = true) : ∀ j, j < l.length → cutAt n l j = true := fun j hj => List.all_eq_true.1 h j (List.mem_range.2 hj)
theorem cutsOk_l {m : List dOp} {l : List Int} (h : modelOkB m = false) : cutsOkB m l = false := by unfold cutsOkB; rw [h]; rfl
theorem cutsOk_r {m : List dOp} {l : List Int} (h : cutsB m.length l = false) : cutsOkB m l = false := by unfold cutsOkB; rw [h, Bool.and_false]
theorem cutsOk_has {m : List dOp} {l : List Int} (h : cutsOkB m l = true) : modelOkB m = true ∧ 1 ≤ m.length ∧ m.length ≤ 8 ∧ (∀ j, j < l.length → cutAt m.length l j = true) ∧ l.length < m.length := by
  unfold cutsOkB at h
  simp only [Bool.and_eq_true] at h
  have hc := cutsB_has h.2
  obtain ⟨-, h1, h2⟩ := modelOk_has h.1
  refine ⟨h.1, h1, h2, hc, ?_⟩
  by_cases h0 : l.length = 0
  · omega
  · have h3 := cuts_rise hc l.length (Nat.le_refl _)
    have h4 := (cutAt_has (hc (l.length - 1) (by omega))).2
    have h5 : prevC l l.length = l.getD (l.length - 1) 0 := by unfold prevC; rw [if_neg h0]
    omega
/-- Where a stage begins: the cut ahead of it, or 0. -/
theorem prevC_le {m : List dOp} {l : List Int} (h : cutsOkB m l = true) (j : Nat) (hj : j ≤ l.length) : 0 ≤ prevC l j ∧ prevC l j < (m.length : Int) := by
  obtain ⟨-, h1, -, hc, -⟩ := cutsOk_has h
  have h2 := cuts_rise (k := l.length) hc j hj
  refine ⟨by omega, ?_⟩
  cases j with
  | zero => rw [prevC_zero]; omega
  | succ j =>
    rw [prevC_succ]
    exact (cutAt_has (hc j (by omega))).2
/-! ### Stages -/
/-- Where a stage ends. -/
def endC (n : Nat) (l : List Int) (j : Nat) : Int := if j < l.length then l.getD j 0 else (n : Int)
def stageB (m : List dOp) (l : List Int) (s : Int) : Bool := cutsOkB m l && inB 0 (l.length : Int) s
def fromC (m : List dOp) (l : List Int) (s : Int) : Int := if stageB m l s then prevC l s.toNat else 0
def toC (m : List dOp) (l : List Int) (s : Int) : Int := if stageB m l s then endC m.length l s.toNat else 0
theorem stageB_has {m : List dOp} {l : List Int} {s : Int} (h : stageB m l s = true) : cutsOkB m l = true ∧ ∃ j : Nat, s = j ∧ j ≤ l.length := by
  unfold stageB at h
  simp only [Bool.and_eq_true] at h
  have := inB_has h.2
  exact ⟨h.1, s.toNat, by omega, by omega⟩
theorem stageB_yes {m : List dOp} {l : List Int} {j : Nat} (h : cutsOkB m l = true) (hj : j ≤ l.length) : stageB m l (j : Int) = true := by
  unfold stageB
  rw [h, inB_yes (by omega) (by omega)]
  rfl
theorem endC_in {m : List dOp} {l : List Int} (h : cutsOkB m l = true) (j : Nat) (hj : j ≤ l.length) : prevC l j < endC m.length l j ∧ endC m.length l j ≤ (m.length : Int) := by
  obtain ⟨-, -, -, hc, -⟩ := cutsOk_has h
  unfold endC
  by_cases hl : j < l.length
  · rw [if_pos hl]
    have := cutAt_has (hc j hl)
    omega
  · rw [if_neg hl]
    have := (prevC_le h j hj).2
    omega
/-- A stage's range lies in the model. -/
theorem range_in (m : List dOp) (l : List Int) (s : Int) : ∃ f t : Nat, fromC m l s = f ∧ toC m l s = t ∧ f ≤ t ∧ t ≤ m.length := by
  unfold fromC toC
  cases h : stageB m l s with
  | false => exact ⟨0, 0, rfl, rfl, Nat.le_refl _, Nat.zero_le _⟩
  | true =>
    obtain ⟨hc, j, rfl, hj⟩ := stageB_has h
    have h1 := prevC_le hc j hj
    have h2 := endC_in hc j hj
    simp only [if_true, Int.toNat_natCast]
    exact ⟨(prevC l j).toNat, (endC m.length l j).toNat, by omega, by omega, by omega, by omega⟩
/-! ### What stages cost -/
def opC (x : dOp) : Int := opCostN x.1 x.2.1 x.2.2.1 x.2.2.2
theorem opC_in (x : dOp) : 0 ≤ opC x ∧ opC x ≤ 36 := by
  unfold opC opCostN
  split
  · rename_i h
    obtain ⟨a, b, ea, eb, ha, hb, -⟩ := opOkB_has h
    rw [ea, eb]
    split
    · have h1 : a * b ≤ 6 * 6 := Nat.mul_le_mul ha.2 hb.2
      have h2 : (a : Int) * (b : Int) = ((a * b : Nat) : Int) := by push_cast; rfl
      rw [h2]
      omega
    · split <;> omega
  · omega
/-- The cost of all ahead of a place. -/
def costTo (m : List dOp) : Nat → Int
  | 0 => 0
  | k + 1 => costTo m k + opC (opAt m k)
theorem costTo_in (m : List dOp) : ∀ k, 0 ≤ costTo m k ∧ costTo m k ≤ 36 * (k : Int)
  | 0 => by simp [costTo]
  | k + 1 => by
    have h1 := costTo_in m k
    have h2 := opC_in (opAt m k)
    unfold costTo
    omega
theorem costTo_le (m : List dOp) {a b : Nat} (h : a ≤ b) : costTo m a ≤ costTo m b := by
  induction b with
  | zero => obtain rfl : a = 0 := by omega
            exact Int.le_refl _
  | succ b ih =>
    by_cases e : a = b + 1
    · rw [e]; exact Int.le_refl _
    · have h1 := ih (by omega)
      have h2 := opC_in (opAt m b)
      show costTo m a ≤ costTo m b + opC (opAt m b)
      omega
def costC (m : List dOp) (l : List Int) (s : Int) : Int := costTo m (toC m l s).toNat - costTo m (fromC m l s).toNat
theorem costC_in (m : List dOp) (l : List Int) (s : Int) : 0 ≤ costC m l s ∧ costC m l s ≤ 288 := by
  unfold costC
  obtain ⟨f, t, e1, e2, h1, h2⟩ := range_in m l s
  rw [e1, e2, Int.toNat_natCast, Int.toNat_natCast]
  have h3 := costTo_le m h1
  have h4 := costTo_in m f
  have h5 := costTo_in m t
  cases h : stageB m l s with
  | false =>
    have e3 : toC m l s = 0 := by unfold toC; rw [h]; rfl
    obtain rfl : t = 0 := by omega
    obtain rfl : f = 0 := by omega
    omega
  | true =>
    obtain ⟨-, -, h8, -⟩ := cutsOk_has (stageB_has h).1
    omega
/-- The greatest cost of the first k stages. -/
def maxTo (m : List dOp) (l : List Int) : Nat → Int
  | 0 => 0
  | k + 1 => max (maxTo m l k) (costC m l (k : Int))
def maxC (m : List dOp) (l : List Int) : Int := if cutsOkB m l then maxTo m l (l.length + 1) else 0
theorem maxTo_in (m : List dOp) (l : List Int) : ∀ k, 0 ≤ maxTo m l k ∧ maxTo m l k ≤ 288
  | 0 => by simp [maxTo]
  | k + 1 => by
    have h1 := maxTo_in m l k
    have h2 := costC_in m l (k : Int)
    unfold maxTo
    omega
theorem maxC_in (m : List dOp) (l : List Int) : 0 ≤ maxC m l ∧ maxC m l ≤ 288 := by
  unfold maxC
  split
  · exact maxTo_in m l _
  · omega
theorem maxTo_ge (m : List dOp) (l : List Int) {j k : Nat} (h : j < k) : costC m l (j : Int) ≤ maxTo m l k := by
  induction k with
  | zero => omega
  | succ k ih =>
    unfold maxTo
    by_cases e : j = k
    · subst e; omega
    · have := ih (by omega); omega
theorem maxC_yes {m : List dOp} {l : List Int} (h : cutsOkB m l = true) : maxC m l = maxTo m l (l.length + 1) := by unfold maxC; rw [if_pos h]
theorem maxC_no {m : List dOp} {l : List Int} (h : cutsOkB m l = false) : maxC m l = 0 := by unfold maxC; rw [if_neg (by rw [h]; decide)]
/-! ### All ways -/
/-- The ways to cut so many operations c times, no cut ahead of lo. -/
def waysFrom (n : Nat) : Nat → Nat → List (List Int)
  | 0, _ => [[]]
  | c + 1, lo => ((List.range n).filter fun x => decide (lo ≤ x)).flatMap fun x => (waysFrom n c (x + 1)).map fun l => (x : Int) :: l
/-- All ways to cut n operations in k stages. -/
def ways (n k : Nat) : List (List Int) := waysFrom n (k - 1) 1
def stuckB (n : Nat) (l : List Int) (j : Nat) : Bool := !decide (l.getD j 0 + ((l.length - j : Nat) : Int) < (n : Int))
/-- The next way is made of one at a place. -/
def nextAt (l : List Int) (i : Nat) : List Int := mapK (fun j => if j < i then l.getD j 0 else l.getD i 0 + 1 + ((j - i : Nat) : Int)) l.length
def firstW (c : Nat) : List Int := mapK (fun j => 1 + (j : Int)) c
/-- Follows the one on the other? -/
def stepWayB (n : Nat) (l l' : List Int) : Bool := (List.range l.length).any fun i => !stuckB n l i && ((List.range l.length).all fun j => decide (j ≤ i) || stuckB n l j) && decide (l' = nextAt l i)
def lastWayB (n : Nat) (l : List Int) : Bool := (List.range l.length).all (stuckB n l)
def chainWayB (n : Nat) : List (List Int) → Bool
  | [] => false
  | [l] => lastWayB n l
  | l :: l' :: r => stepWayB n l l' && chainWayB n (l' :: r)
/-- All that is asked of the ways, checked one by one. -/
def waysB (n k : Nat) : Bool := chainWayB n (ways n k) && decide ((ways n k)[0]? = some (firstW (k - 1))) && (ways n k).all (fun l => decide (l.length = k - 1) && cutsB n l) && decide ((ways n k).length ≤ 35) && decide (1 ≤ (ways n k).length)
theorem ways_checked : ((List.range 9).all fun n => (List.range 9).all fun k => !(decide (1 ≤ k) && decide (k ≤ n)) || waysB n k) = true := by decide +kernel
theorem waysB_in {n k : Nat} (hk : 1 ≤ k) (hn : k ≤ n) (h8 : n ≤ 8) : waysB n k = true := by
  have h1 := List.all_eq_true.1 ways_checked n (List.mem_range.2 (by omega))
  have h2 := List.all_eq_true.1 h1 k (List.mem_range.2 (by omega))
  rw [decide_eq_true hk, decide_eq_true hn] at h2
  simpa using h2
theorem chain_step {n : Nat} : ∀ {L : List (List Int)} {p : Nat} {l l' : List Int}, chainWayB n L = true → L[p]? = some l → L[p + 1]? = some l' → stepWayB n l l' = true
  | [], _, _, _, h, _, _ => by cases h
  | [_], p, _, _, _, _, h2 => by simp at h2
  | a :: b :: r, 0, _, _, h, h1, h2 => by
    simp only [chainWayB, Bool.and_eq_true] at h
    simp only [List.getElem?_cons_zero, List.getElem?_cons_succ, Option.some.injEq] at h1 h2
    subst h1 h2
    exact h.1
  | a :: b :: r, p + 1, _, _, h, h1, h2 => by
    simp only [chainWayB, Bool.and_eq_true] at h
    rw [List.getElem?_cons_succ] at h1 h2
    exact chain_step h.2 h1 h2
theorem chain_last {n : Nat} : ∀ {L : List (List Int)} {p : Nat} {l : List Int}, chainWayB n L = true → L[p]? = some l → L.length = p + 1 → lastWayB n l = true
  | [], _, _, h, _, _ => by cases h
  | [a], 0, _, h, h1, _ => by
    simp only [List.getElem?_cons_zero, Option.some.injEq] at h1
    subst h1
    exact h
  | [_], p + 1, _, _, h1, _ => by simp at h1
  | a :: b :: r, 0, _, _, _, h2 => by simp at h2
  | a :: b :: r, p + 1, _, h, h1, h2 => by
    simp only [chainWayB, Bool.and_eq_true] at h
    rw [List.getElem?_cons_succ] at h1
    exact chain_last h.2 h1 (by simpa using h2)
structure WaysAt (n k : Nat) : Prop where
  first : (ways n k)[0]? = some (firstW (k - 1))
  len : ∀ (p : Nat) (l : List Int), (ways n k)[p]? = some l → l.length = k - 1 ∧ cutsB n l = true
  step : ∀ (p : Nat) (l l' : List Int), (ways n k)[p]? = some l → (ways n k)[p + 1]? = some l' → ∃ i, i < k - 1 ∧ stuckB n l i = false ∧ (∀ j, i < j → j < k - 1 → stuckB n l j = true) ∧ l' = nextAt l i
  last : ∀ (p : Nat) (l : List Int), (ways n k)[p]? = some l → (ways n k).length = p + 1 → ∀ j, j < k - 1 → stuckB n l j = true
  few : (ways n k).length ≤ 35
  some : 1 ≤ (ways n k).length
theorem ways_at {n k : Nat} (hk : 1 ≤ k) (hn : k ≤ n) (h8 : n ≤ 8) : WaysAt n k := by
  have h := waysB_in hk hn h8
  unfold waysB at h
  simp only [Bool.and_eq_true, decide_eq_true_eq, List.all_eq_true] at h
  obtain ⟨⟨⟨⟨h1, h2⟩, h3⟩, h4⟩, h5⟩ := h
  have hlen : ∀ (p : Nat) (l : List Int), (ways n k)[p]? = .some l → l.length = k - 1 ∧ cutsB n l = true := fun p l hl => h3 l (List.mem_of_getElem? hl)
  refine ⟨h2, hlen, fun p l l' hl hl' => ?_, fun p l hl he j hj => ?_, h4, h5⟩
  · have hs := chain_step h1 hl hl'
    unfold stepWayB at hs
    simp only [List.any_eq_true, List.mem_range, Bool.and_eq_true, Bool.not_eq_true', List.all_eq_true, Bool.or_eq_true, decide_eq_true_eq] at hs
    obtain ⟨i, hi, ⟨s1, s2⟩, s3⟩ := hs
    have e := (hlen p l hl).1
    refine ⟨i, by omega, s1, fun j hj hjk => ?_, s3⟩
    exact (s2 j (by omega)).resolve_left (by omega)
  · have hs := chain_last h1 hl he
    unfold lastWayB at hs
    have e := (hlen p l hl).1
    exact List.all_eq_true.1 hs j (List.mem_range.2 (by omega))
/-- Ways rise: each has a greater rank than the one ahead. -/
def rankW (l : List Int) : Nat := l.foldl (fun a x => a * 9 + x.toNat) 0
def rankedB : List (List Int) → Bool
  | [] => true
  | [l] => decide (rankW l < 5000000)
  | l :: l' :: r => decide (rankW l < rankW l') && rankedB (l' :: r)
theorem ways_ranked : ((List.range 9).all fun n => (List.range 9).all fun k => !(decide (1 ≤ k) && decide (k ≤ n)) || rankedB (ways n k)) = true := by decide +kernel
theorem ranked_in {n k : Nat} (hk : 1 ≤ k) (hn : k ≤ n) (h8 : n ≤ 8) : rankedB (ways n k) = true := by
  have h1 := List.all_eq_true.1 ways_ranked n (List.mem_range.2 (by omega))
  have h2 := List.all_eq_true.1 h1 k (List.mem_range.2 (by omega))
  rw [decide_eq_true hk, decide_eq_true hn] at h2
  simpa using h2
theorem ranked_step : ∀ {L : List (List Int)} {p : Nat} {l l' : List Int}, rankedB L = true → L[p]? = some l → L[p + 1]? = some l' → rankW l < rankW l'
  | [], _, _, _, _, h1, _ => by simp at h1
  | [_], p, _, _, _, _, h2 => by simp at h2
  | a :: b :: r, 0, _, _, h, h1, h2 => by
    simp only [rankedB, Bool.and_eq_true, decide_eq_true_eq] at h
    simp only [List.getElem?_cons_zero, List.getElem?_cons_succ, Option.some.injEq] at h1 h2
    subst h1 h2
    exact h.1
  | a :: b :: r, p + 1, _, _, h, h1, h2 => by
    simp only [rankedB, Bool.and_eq_true, decide_eq_true_eq] at h
    rw [List.getElem?_cons_succ] at h1 h2
    exact ranked_step h.2 h1 h2
theorem ranked_top : ∀ {L : List (List Int)} {p : Nat} {l : List Int}, rankedB L = true → L[p]? = some l → rankW l < 5000000
  | [], _, _, _, h1 => by simp at h1
  | [a], 0, _, h, h1 => by
    simp only [rankedB, decide_eq_true_eq] at h
    simp only [List.getElem?_cons_zero, Option.some.injEq] at h1
    subst h1
    exact h
  | [_], p + 1, _, _, h1 => by simp at h1
  | a :: b :: r, 0, _, h, h1 => by
    simp only [rankedB, Bool.and_eq_true, decide_eq_true_eq] at h
    simp only [List.getElem?_cons_zero, Option.some.injEq] at h1
    subst h1
    have := ranked_top (p := 0) h.2 rfl
    omega
  | a :: b :: r, p + 1, _, h, h1 => by
    simp only [rankedB, Bool.and_eq_true, decide_eq_true_eq] at h
    rw [List.getElem?_cons_succ] at h1
    exact ranked_top h.2 h1
theorem stage_j {m : List dOp} {l : List Int} {j : Nat} (h : cutsOkB m l = true) (hj : j ≤ l.length) : fromC m l (j : Int) = prevC l j ∧ toC m l (j : Int) = endC m.length l j := by
  unfold fromC toC
  rw [stageB_yes h hj, Int.toNat_natCast]
  exact ⟨rfl, rfl⟩
theorem stage_no {m : List dOp} {l : List Int} {s : Int} (h : stageB m l s = false) : fromC m l s = 0 ∧ toC m l s = 0 := by
  unfold fromC toC
  rw [h]
  exact ⟨rfl, rfl⟩
theorem stageB_l {m : List dOp} {l : List Int} {s : Int} (h : cutsOkB m l = false) : stageB m l s = false := by unfold stageB; rw [h]; rfl
theorem stageB_r {m : List dOp} {l : List Int} {s : Int} (h : inB 0 (l.length : Int) s = false) : stageB m l s = false := by unfold stageB; rw [h, Bool.and_false]
theorem prevC_pos {l : List Int} {i j : Nat} (h : j = i + 1) : prevC l j = l.getD i 0 := by subst h; exact prevC_succ l i
theorem endC_lt {n : Nat} {l : List Int} {j : Nat} (h : j < l.length) : endC n l j = l.getD j 0 := if_pos h
theorem endC_ge {n : Nat} {l : List Int} {j : Nat} (h : ¬ j < l.length) : endC n l j = (n : Int) := if_neg h
theorem fill_model {m : List dOp} {k : Nat} {x : dOp} (hx : m[k]? = some x) : costTo m (k + 1) = costTo m k + opC x := by
  show costTo m k + opC (opAt m k) = _
  rw [opAt_get hx]
theorem maxTo_succ (m : List dOp) (l : List Int) (k : Nat) : maxTo m l (k + 1) = max (maxTo m l k) (costC m l (k : Int)) := rfl
end Go.Proofs.Ytkmcfbopilieeaa

end

/-! YtkmcfbopilieeaaRowsIter -/
section

namespace Go.Proofs.Ytkmcfbopilieeaa
open Go.RowKit
set_option linter.unusedVariables false

/-- The iterator gives N rows, the p-th one R p, each in memory that is new in its round; it writes one block of its own (b0), which a round leaves alone. -/
def RowsGiven (F : Fence) (n : Nat) (P : Program) (gf : Nat) (lb : Array Value) (Kp : World → World → Prop) (R : Nat → List Int) (N : Nat) (w : World) (b0 : Nat) : Prop :=
  ∀ (l : Nat) (J : List Value → World → Prop) (W : World), Below w.heap.size w W → W.heap.size = b0 →
    (∀ pre A B, J pre A → A.grownBy B (some b0) → J pre B) →
    (∀ pre v W0 W1, J pre W0 → b0 < W0.heap.size → Below W0.heap.size W0 W1 → Row W0.heap.size W1 v (R pre.length) → pre.length < N → YieldAt F (n - 1) P l #[v] W1 fun e W' =>
      e = .returned (.bool true) ∧ J (pre ++ [v]) W' ∧ Kp W1 W' ∧ W'.heap[b0]? = W1.heap[b0]? ∧ W1.heap.size ≤ W'.heap.size) →
    J [] W →
    CallsIn F n P gf (#[.func (.yield l) #[] #[]] ++ lb) W fun e W' => (∃ v, e = .returned v) ∧ ∃ xs : List Value, xs.length = N ∧ J xs W'

/-- How a round's body is left: only off its end. -/
def rowsPost (B : Nat) (Kp : World → World → Prop) (I : List Value → World → Prop) (xs : List Value) (W : World) : Exit → Act → World → Prop
  | .normal, _, W' => KeepsFrom B W W' ∧ W'.heap[B + 2]? = W.heap[B + 2]? ∧ Kp W W' ∧ I xs W'
  | _, _, _ => False

theorem below_putTwo {W0 W1 : World} (h : Below W0.heap.size W0 W1) (l : Nat) (o : Obj) (hl : l < W0.heap.size) : Below (W0.putObj l o).heap.size (W0.putObj l o) (W1.putObj l o) := by
  refine ⟨h.os, h.tape, h.output, by simpa using h.size, fun b hb => ?_⟩
  have hb' : b < W0.heap.size := by simpa using hb
  by_cases e : b = l
  · subst e
    rw [World.putObj_heap_same (Nat.lt_of_lt_of_le hl h.size), World.putObj_heap_same hl]
  · rw [World.putObj_heap_other e, World.putObj_heap_other e]
    exact h.block b hb'

theorem wpIn_rowsIter {F : Fence} {n : Nat} {P : Program} {g : Operand} {ps : Array Tmp} {assign body : Code} {Q : Exit → Act → World → Prop} {a : Act} {w : World}
    (hro : F.round = none) (h1 : 1 ≤ n) {gf : Nat} {lb : Array Value} (hg : a.eval g = .func (.func gf) #[] lb) (hFg : F.fn gf) (eg : ∀ args w, (callFunc gf args).run P w = .ok (.enter gf args) w)
    {Kp : World → World → Prop} {R : Nat → List Int} {N : Nat} {w0 : World} (hseq : RowsGiven F (n - 1) P gf lb Kp R N w0 (w.heap.size + 2))
    (hKt : ∀ {A B C : World}, Kp A B → Kp B C → Kp A C) (hKb : ∀ (W : World) (l : Nat) (o o' : Obj), w.heap.size ≤ l → W.heap[l]? = some o → o.isCells = false → o.isWalk = false → Kp W (W.putObj l o')) (hb0 : Below w0.heap.size w0 w) (hps : ps.size = 1)
    (I : List Value → World → Prop) (hI : ∀ pre A B row, I pre A → A.grownBy B row → (∀ r, row = some r → w.heap.size ≤ r ∧ r < w.heap.size + 3) → I pre B) (h0 : I [] w) (a₁ : Value → Act)
    (hassign : ∀ (l : Nat) (x : Value) (W : World) (K : Act → World → Prop), K (a₁ x) W →
      assign.wpIn (F.inRound l) (n - 1 - 1) P (Exit.then K (fun _ _ _ => False)) { tmps := (ps.zip #[x]).foldl (fun t (p, v) => t.setIfInBounds p v) a.tmps, defers := [] } W)
    (hbody : ∀ (l : Nat) (pre : List Value) (v : Value) (W0 W1 : World), I pre W0 → w.heap.size + 3 ≤ W0.heap.size → Below W0.heap.size W0 W1 → Row W0.heap.size W1 v (R pre.length) → pre.length < N → body.wpIn (F.inRound l) (n - 1 - 1) P (rowsPost w.heap.size Kp I (pre ++ [v]) W1) (a₁ v) W1)
    (hdone : ∀ (xs : List Value) (W : World), xs.length = N → I xs W → W.heap[w.heap.size]? = some (.deferred (some [])) → Q .normal { a with defers := { target := .collected w.heap.size, args := #[] } :: a.defers } W) :
    (Code.rangeFunc g ps assign body).wpIn F n P Q a w := by
  refine wpIn_rangeFunc fun fn hfn => ?_
  rw [hro]
  obtain ⟨rec, hrec⟩ : ∃ rec : LoopState → Option Code → Loop, rec = fun st pe => { state := st, pending := pe, fn, tmps := a.tmps, params := ps, assign, body, defers := w.heap.size } := ⟨_, rfl⟩
  obtain ⟨W1, hW1⟩ : ∃ W1, (w.alloc (.deferred (some []))).alloc (.loop (rec .ready none)) = W1 := ⟨_, rfl⟩
  have hs1 : W1.heap.size = w.heap.size + 2 := by rw [← hW1]; simp
  have hL1 : W1.heap[w.heap.size + 1]? = some (.loop (rec .ready none)) := by
    have := World.alloc_heap_new (w.alloc (.deferred (some []))) (.loop (rec .ready none))
    rw [World.size_alloc] at this
    rw [← hW1]
    exact this
  have hK1 : W1.heap[w.heap.size]? = some (.deferred (some [])) := by
    rw [← hW1]
    exact (Below.heap_alloc _ _ _ (by simp)).trans (World.alloc_heap_new w _)
  have hgr : w.grownBy W1 none := by
    rw [← hW1]
    exact grownBy_trans' (World.grownBy_alloc w _ none) (World.grownBy_alloc _ _ none)
  have hI1 : I [] W1 := hI _ _ _ none h0 hgr fun r e => by cases e
  have hb1 : Below w0.heap.size w0 W1 := by
    rw [← hW1]
    exact hb0.trans ((((Below.refl _ w).alloc (Nat.le_refl _) _).alloc (by simp) _).mono hb0.size)
  refine ⟨w.heap.size + 1, [{ target := .collected w.heap.size, args := #[] }], W1, { target := .fn (.func gf) lb, args := #[.func (.yield (w.heap.size + 1)) #[] #[]] }, W1, gf,
    #[.func (.yield (w.heap.size + 1)) #[] #[]] ++ lb, W1, ?_, ?_, ?_, ?_, fun _ => h1, ?_⟩
  · rw [← hW1, hrec]
    exact run_enterLoop_outer _ _ _ _ _
  · simp only [resolve, hg]
    simp [go_sem]
  · intro f' hf'
    simp [Target.leads] at hf'
    subst hf'
    exact hFg
  · simp [invoke, go_sem, eg]
  · have hput : ∀ (pre : List Value) (A : World) (k : Nat) (o : Obj), w.heap.size ≤ k → k < w.heap.size + 3 → I pre A → I pre (A.putObj k o) := fun pre A k o h2 h3 hi =>
      hI _ _ _ (some k) hi (grownBy_putObj' A k o) fun r e => by cases e; exact ⟨h2, h3⟩
    refine (hseq (w.heap.size + 1) (fun pre W => I pre W ∧ W.heap[w.heap.size + 1]? = some (.loop (rec .ready none)) ∧ W.heap[w.heap.size]? = some (.deferred (some []))) W1 hb1 hs1
      (fun pre A B hs hg' => ⟨hI _ _ _ _ hs.1 hg' fun r e => by cases e; omega,
        (hg'.block _ (Array.getElem?_eq_some_iff.1 hs.2.1).1 (fun e => by have := Option.some.inj e; omega)).trans hs.2.1, (hg'.block _ (Array.getElem?_eq_some_iff.1 hs.2.2).1 (fun e => by have := Option.some.inj e; omega)).trans hs.2.2⟩)
      ?_ ⟨hI1, hL1, hK1⟩).mono ?_
    · rintro pre v U0 U1 ⟨hi, hl, hk⟩ hb0' hB hrow hlen
      have hlt : w.heap.size + 1 < U0.heap.size := (Array.getElem?_eq_some_iff.1 hl).1
      have hl1 : U1.heap[w.heap.size + 1]? = some (.loop (rec .ready none)) := (hB.block _ hlt).trans hl
      have hk1 : U1.heap[w.heap.size]? = some (.deferred (some [])) := (hB.block _ (by omega)).trans hk
      have hlt1 := Nat.lt_of_lt_of_le hlt hB.size
      have hy := run_yield (P := P) (args := #[v]) hl1 (by rw [hrec]; exact hps.symm)
      rw [hrec] at hy
      refine ⟨fn, _, assign, body, hy, roundIn_of_wpIn hfn (hassign _ v U1 _ ⟨_, run_beginRound hl1 (by rw [hrec]), ?_⟩)⟩
      obtain ⟨ob, hob⟩ : ∃ ob : Obj, .loop { rec .ready none with state := .busy } = ob := ⟨_, rfl⟩
      have hl2 : (U1.putObj (w.heap.size + 1) ob).heap[w.heap.size + 1]? = some (.loop { rec .ready none with state := .busy }) := by rw [← hob]; exact World.putObj_heap_same hlt1
      have hk2 : (U1.putObj (w.heap.size + 1) ob).heap[w.heap.size]? = some (.deferred (some [])) := (World.putObj_heap_other (by omega)).trans hk1
      have hw2 : Kp U1 (U1.putObj (w.heap.size + 1) ob) := hKb _ _ _ _ (by omega) hl1 rfl rfl
      have hq2 : (U1.putObj (w.heap.size + 1) ob).heap[w.heap.size + 2]? = U1.heap[w.heap.size + 2]? := World.putObj_heap_other (by omega)
      have hrow2 : Row U0.heap.size (U1.putObj (w.heap.size + 1) ob) v (R pre.length) := hrow.kept (grownBy_putObj' _ _ _) (by
        cases hv : v.ownBlock with
        | none => exact .inl rfl
        | some k => exact .inr fun e => by cases e; have := (hrow.lt _ hv).1; omega)
      have hb := hbody (w.heap.size + 1) pre v (U0.putObj (w.heap.size + 1) ob) (U1.putObj (w.heap.size + 1) ob) (hput pre U0 _ ob (by omega) (by omega) hi) (by simp; omega) (below_putTwo hB _ ob hlt) (by simpa using hrow2) hlen
      rw [hob]
      refine wpIn_mono hb ?_
      rintro e a3 U3 hp
      cases e with
      | normal =>
        obtain ⟨hk3, hq3, hkp3, hi3⟩ := hp
        have hl3 := hk3.same _ _ (by omega) hl2 rfl
        have hk4 := hk3.same _ _ (Nat.le_refl _) hk2 rfl
        have hlt3 := (Array.getElem?_eq_some_iff.1 hl3).1
        have hr := run_endRound (P := P) none hl3
        refine ⟨_, _, hr, rfl, ⟨hput _ _ _ _ (by omega) (by omega) hi3, ?_, (World.putObj_heap_other (by omega)).trans hk4⟩, hKt (hKt hw2 hkp3) (hKb _ _ _ _ (by omega) hl3 rfl rfl), ?_, ?_⟩
        · rw [World.putObj_heap_same hlt3, hrec]
          rfl
        · exact (World.putObj_heap_other (by omega)).trans (hq3.trans hq2)
        · have := hk3.size
          simpa using this
      | ret => exact hp.elim
      | exit id => exact hp.elim
      | goto t => exact hp.elim
      | panic ch => exact hp.elim
      | outgrown => exact hp.elim
    · rintro e U2 ⟨⟨v, rfl⟩, xs, hx, hi, hl, hk⟩
      have hr := run_endLoop (P := P) hl (by rw [hrec]; simp)
      refine ⟨none, _, by rw [hrec] at hr; exact hr, hdone xs _ hx (hput _ _ _ _ (by omega) (by omega) hi) ((World.putObj_heap_other (by omega)).trans hk)⟩
end Go.Proofs.Ytkmcfbopilieeaa

end

/-! YtkmcfbopilieeaaCutR -/
section

namespace Go.Proofs.Ytkmcfbopilieeaa
open Go.RowKit Go.Shelf
set_option linter.unusedVariables false
attribute [local go_sem] Oper.semAt_some

/-- From a place on, each is one more than the one ahead. -/
def riseK (l : List Int) (i : Nat) (f : Int) : Nat → List Int
  | 0 => l
  | k + 1 => (riseK l i f k).set (i + k) (f + (k : Int))
theorem riseK_length (l : List Int) (i : Nat) (f : Int) (k : Nat) : (riseK l i f k).length = l.length := by
  induction k with
  | zero => rfl
  | succ k ih => rw [riseK, List.length_set, ih]
theorem riseK_get (l : List Int) (i : Nat) (f : Int) : ∀ (k j : Nat), i + k ≤ l.length → (riseK l i f k).getD j 0 = if i ≤ j ∧ j < i + k then f + ((j - i : Nat) : Int) else l.getD j 0
  | 0, j, _ => by rw [if_neg (by omega)]; rfl
  | k + 1, j, h => by
    have ih := riseK_get l i f k j (by omega)
    have hl := riseK_length l i f k
    unfold riseK
    rw [List.getD_eq_getElem?_getD, List.getElem?_set]
    by_cases e : i + k = j
    · subst e
      rw [if_pos rfl, if_pos (by omega), if_pos (by omega)]
      rw [show i + k - i = k by omega]
      rfl
    · rw [if_neg e, ← List.getD_eq_getElem?_getD, ih]
      by_cases h1 : i ≤ j ∧ j < i + k
      · rw [if_pos h1, if_pos (by omega)]
      · rw [if_neg h1, if_neg (by omega)]
theorem rise_next {l : List Int} {i n : Nat} (hl : l.length = n) (hi : i < n) : riseK l i (l.getD i 0 + 1) (n - i) = nextAt l i := by
  refine List.ext_getElem (by rw [riseK_length]; unfold nextAt; rw [mapK_length]) fun j h1 h2 => ?_
  rw [riseK_length, hl] at h1
  have e1 := riseK_get l i (l.getD i 0 + 1) (n - i) j (by omega)
  have e2 := mapK_get (fun j => if j < i then l.getD j 0 else l.getD i 0 + 1 + ((j - i : Nat) : Int)) l.length j (by omega)
  rw [List.getD_eq_getElem?_getD, List.getElem?_eq_getElem (by rw [riseK_length]; omega)] at e1
  rw [List.getD_eq_getElem?_getD, List.getElem?_eq_getElem (by rw [mapK_length]; omega)] at e2
  simp only [Option.getD_some] at e1 e2
  rw [e1]
  refine Eq.trans ?_ e2.symm
  by_cases hj : j < i
  · rw [if_neg (by omega), if_pos hj]
  · rw [if_pos (by omega), if_neg hj]
theorem rise_first (c : Nat) : riseK (List.replicate c 0) 0 1 c = firstW c := by
  have hl : (List.replicate c (0 : Int)).length = c := by simp
  refine List.ext_getElem (by rw [riseK_length, hl]; unfold firstW; rw [mapK_length]) fun j h1 h2 => ?_
  rw [riseK_length, hl] at h1
  have e1 := riseK_get (List.replicate c 0) 0 1 c j (by rw [hl]; omega)
  have e2 := mapK_get (fun j => 1 + (j : Int)) c j h1
  rw [List.getD_eq_getElem?_getD, List.getElem?_eq_getElem (by rw [riseK_length, hl]; omega)] at e1
  rw [List.getD_eq_getElem?_getD, List.getElem?_eq_getElem (by rw [mapK_length]; omega)] at e2
  simp only [Option.getD_some] at e1 e2
  rw [e1, if_pos (by omega)]
  refine Eq.trans ?_ e2.symm
  rw [Nat.sub_zero]

/-- What a call leaves: the row at g has turned into another one; nothing else that lay. -/
def RowTurned (base g n cap : Nat) (l' : List Int) (w w' : World) : Prop := Row base w' (.slice (some ⟨g, 0, none⟩) n cap) l' ∧ w.grownBy w' (some g)
set_option maxRecDepth 100000 in
set_option maxHeartbeats 1600000 in
theorem implRiseFrom_any (w : World) (base g n cap : Nat) (l : List Int) (hrow : Row base w (.slice (some ⟨g, 0, none⟩) n cap) l) (hl : l.length = n) (hn : n ≤ 7) (i : Nat) (hi : i ≤ n) (c' : Nat) (f : Int) (hf : 0 ≤ f ∧ f ≤ 100) :
    Calls Try.prog 64 #[.slice (some ⟨g, i, none⟩) (n - i) c', .int .i64 f] w fun e w' => (∃ v, e = .returned v) ∧ RowTurned base g n cap (riseK l i f (n - i)) w w' := by
  have HR := Lib.hid hrow
  have HL := Lib.hid hl
  obtain ⟨D, hD⟩ : ∃ D, n - i = D := ⟨_, rfl⟩
  rw [hD]
  have hiD : i + D = n := by omega
  clear hrow hl hD
  go_enter Try.func64, Try.ntmps64
  go_wp2_with fail
  go_loopw [7] (fun q wr => ∃ k : Nat, k ≤ D ∧ q = .int .i64 k ∧ Hid (RowTurned base g n cap (riseK l i f k) w wr)) (fun q _ => D - (intOf q).toNat)
  case atStart => exact ⟨0, Nat.zero_le _, rfl, Lib.hid ⟨HR.out, ⟨rfl, rfl, rfl, Nat.le_refl _, fun _ _ _ => rfl⟩⟩⟩
  case round =>
    obtain ⟨k, hk, rfl, hrt⟩ := hrel
    by_cases hlt : k < D
    · have hrl : (riseK l i f k).length = n := by rw [riseK_length]; exact HL.out
      have hown : wr.ownsRow base 3 1 (.slice (some ⟨g, 0, none⟩) n cap) n (icells (riseK l i f k)) := by
        have h1 := hrt.out.1
        unfold Row at h1
        rw [hrl] at h1
        exact h1
      have hst := World.ownsRow.stored hown (i + k) (.int .i64 (f + (k : Int)))
      rw [icells_set] at hst
      have hfr := World.ownsRow.frozenAt hown (i + k)
      obtain ⟨u, hu⟩ : ∃ u, wr.cell? ⟨g, i + k, none⟩ = some u := by
        rw [World.ownsRow.cellAt hown (i + k) (by omega)]
        exact ⟨_, List.getElem?_eq_getElem (by rw [icells_length, hrl]; omega)⟩
      have HNX : Hid (RowTurned base g n cap (riseK l i f (k + 1)) w (wr.setCell ⟨g, i + k, none⟩ (.int .i64 (f + (k : Int))))) := Lib.hid ⟨by
        unfold Row
        rw [riseK_length, HL.out]
        exact hst.1, grownBy_trans' hrt.out.2 hst.2⟩
      have hw0 : wrap64 (f + (k : Int)) = f + (k : Int) := IntWalk.wrap64_in _ (by omega)
      clear hown hst hrl
      go_wp2_with fail
      go_roundw
      case rel => exact ⟨k + 1, by omega, by go_num, HNX⟩
      case measure => simp [intOf]; omega
    · obtain rfl : k = D := by omega
      go_wp2_with fail
      go_end0
      exact ⟨⟨_, rfl⟩, hrt.out⟩
/-! ### slices.Backward over numbers -/
def intEnc (xs : List Int) (N : Nat) (x : Fin N) : Array Value := #[.int .i64 ((N - 1 - x.1 : Nat) : Int), .int .i64 (xs.getD (N - 1 - x.1) 0)]
set_option maxRecDepth 100000 in
set_option maxHeartbeats 2000000 in
theorem backI1_in (n : Nat) (hn : 1 ≤ n) (l B1 b N cap : Nat) (xs : List Int) (hN8 : N ≤ 8) (Kp : World → World → Prop) (hKp : ∀ X Y, Kp X Y → Y.heap[B1]? = X.heap[B1]? ∧ Y.heap[b]? = X.heap[b]?) (J Jx : List (Fin N) → World → Prop)
    (hY : ∀ pre x W, J pre W → pre.length < N → YieldAt Fence.wide (n - 1) Try.prog l (intEnc xs N x) W fun e W' =>
      (e = .returned (.bool true) ∧ J (pre ++ [x]) W' ∧ Kp W W') ∨ (e = .returned (.bool false) ∧ Jx (pre ++ [x]) W'))
    (W : World) (hJ : AbidesFrom W.heap.size J) (t1 : TypeId) (h1 : Boxed W B1 t1 (.slice (some ⟨b, 0, none⟩) N cap)) (h2 : ∀ i, i < N → W.cell? ⟨b, i, none⟩ = some (.int .i64 (xs.getD i 0))) (h0 : J [] W) :
    CallsIn Fence.wide n Try.prog 86 #[.func (.yield l) #[] #[], .pointer (some ⟨B1, 0, none⟩)] W fun e W' => (∃ v, e = .returned v) ∧
      ((∃ ys, CameK ys N ∧ J ys W') ∨ (∃ pre, (∃ k, CameK pre k) ∧ Jx pre W')) := by
  refine callsIn_of_wp Try.func86 rfl trivial ?_ rfl
  simp only [Try.ntmps86, List.size_toArray, List.length_cons, List.length_nil, Nat.reduceAdd, Nat.reduceSub, Array.replicate_succ, Array.replicate_zero, List.push_toArray, List.append_toArray, List.nil_append, List.cons_append]
  have HY := Lib.hid hY
  have HJ := Lib.hid hJ
  have H1 := Lib.hid h1
  have H2 := Lib.hid h2
  have c1 := h1.cell
  have hw0 : wrap64 ((N : Int) - 1) = (N : Int) - 1 := by rw [IntWalk.wrap64_in _ (by omega)]
  clear hY hJ h1 h2
  gi_wp2
  gi_loopw [3] (fun i wr => ∃ (k : Nat) (pre : List (Fin N)), k ≤ N ∧ i = .int .i64 ((N : Int) - 1 - (k : Nat)) ∧ CameK pre k ∧ J pre wr ∧ Boxed wr B1 t1 (.slice (some ⟨b, 0, none⟩) N cap) ∧ (∀ i, i < N → wr.cell? ⟨b, i, none⟩ = some (.int .i64 (xs.getD i 0))))
    (fun i _ => (intOf i + 1).toNat)
  case atStart => exact ⟨0, [], Nat.zero_le _, by simp, rfl, h0, H1.out, H2.out⟩
  case round =>
    obtain ⟨k, pre, hk, rfl, hcame, hJs, b1, b2⟩ := hrel
    have c1 := b1.cell
    by_cases hlt : k < N
    · obtain ⟨j, hj⟩ : ∃ j, N - 1 - k = j := ⟨_, rfl⟩
      have hjn : j < N := by omega
      have hz : (N : Int) - 1 - (k : Nat) = (j : Nat) := by omega
      have hw1 : wrap64 ((j : Int) - 1) = (j : Int) - 1 := by rw [IntWalk.wrap64_in _ (by omega)]
      have HT1 : Hid ((j : Int) - 1 = (N : Int) - 1 - ((k + 1 : Nat) : Int)) := Lib.hid (by omega)
      have c2 := b2 j hjn
      obtain ⟨U, hU⟩ : ∃ U, xs.getD j 0 = U := ⟨_, rfl⟩
      rw [hU] at c2
      have B1H := Lib.hid b1
      have B2H := Lib.hid b2
      obtain ⟨fn, tmps, assign, body, hy, hR⟩ := HY.out pre ⟨k, hlt⟩ wr hJs (by rw [hcame.length]; exact hlt)
      simp only [intEnc] at hy
      rw [hj, hU] at hy
      have HR := Lib.hid hR
      have HC := Lib.hid (hcame.snoc hlt)
      have HZ := Lib.hid hz
      rw [hz]
      clear hR hz hU hj hJs b1 b2
      gi_wp2
      refine HR.out.mono ?_
      rintro e W3 (⟨rfl, hJ3, hk3⟩ | ⟨rfl, hJx3⟩)
      · obtain ⟨k1, k2⟩ := hKp _ _ hk3
        have b1 : Boxed W3 B1 t1 (.slice (some ⟨b, 0, none⟩) N cap) := k1.trans B1H.out
        have b2 : ∀ i, i < N → W3.cell? ⟨b, i, none⟩ = some (.int .i64 (xs.getD i 0)) := fun i hi => (World.cell?_of_block (a := ⟨b, i, none⟩) k2).trans (B2H.out i hi)
        have B1K := Lib.hid b1
        have B2K := Lib.hid b2
        clear b1 b2 c1 c2
        gi_wp2
        go_roundw
        case rel => exact ⟨k + 1, pre ++ [⟨k, hlt⟩], by omega, congrArg (Value.int .i64) HT1.out, HC.out, hJ3, B1K.out, B2K.out⟩
        case measure =>
          have h1 := HZ.out
          simp [intOf]
          try omega
      · gi_wp2
        refine bodyPost_ret (results_none rfl _ _ _) rfl ?_
        exact ⟨⟨_, rfl⟩, .inr ⟨_, ⟨_, HC.out⟩, hJx3⟩⟩
    · obtain rfl : k = N := by omega
      have hz : (k : Int) - 1 - (k : Nat) = -1 := by omega
      rw [hz]
      clear hz b2
      gi_wp2
      go_end0
      exact ⟨⟨_, rfl⟩, .inl ⟨pre, hcame, hJs⟩⟩
theorem backwardI_in (n : Nat) (a : Option Addr) (len cap : Nat) (w : World) :
    CallsIn Fence.wide n Try.prog 81 #[.slice a len cap] w fun e w' =>
      e = .returned (.func (.func 86) #[] #[.pointer (some ⟨w.heap.size, 0, none⟩)]) ∧
      w' = w.alloc (.cells #[.slice a len cap] 29 (0, 0)) := by
  refine callsIn_of_wp Try.func81 rfl trivial ?_ rfl
  simp only [Try.ntmps81, List.size_toArray, List.length_cons, List.length_nil, Nat.reduceAdd, Nat.reduceSub, Array.replicate_succ, Array.replicate_zero, List.push_toArray, List.append_toArray, List.nil_append, List.cons_append]
  gi_wp2
  go_ret
  exact ⟨by simp, rfl⟩
theorem backI_stops (n : Nat) (hn : 1 ≤ n) (B1 b N cap : Nat) (xs : List Int) (hN8 : N ≤ 8) (Kp : World → World → Prop) (hKp : ∀ X Y, Kp X Y → Y.heap[B1]? = X.heap[B1]? ∧ Y.heap[b]? = X.heap[b]?) (w : World) (t1 : TypeId) (h1 : Boxed w B1 t1 (.slice (some ⟨b, 0, none⟩) N cap))
    (hb : b < w.heap.size) (h2 : ∀ i, i < N → w.cell? ⟨b, i, none⟩ = some (.int .i64 (xs.getD i 0))) :
    SeqStopsK Fence.wide n Try.prog 86 #[.pointer (some ⟨B1, 0, none⟩)] (intEnc xs N) Kp (fun ys => CameK ys N) (fun pre => ∃ k, CameK pre k) N w := fun l J Jx W hW hJ _ hY h0 =>
  backI1_in n hn l B1 b N cap xs hN8 Kp hKp J Jx hY W hJ t1 ((hW.block B1 h1.lt).trans h1) (fun i hi => (World.cell?_of_block (a := ⟨b, i, none⟩) (hW.block b hb)).trans (h2 i hi)) h0
/-! ### toNextWay -/
def NextAt (N n : Nat) (l : List Int) : Option Nat → Prop
  | none => ∀ j, j < n → stuckB N l j = true
  | some i => i < n ∧ stuckB N l i = false ∧ ∀ j, i < j → j < n → stuckB N l j = true
def nextL (l : List Int) : Option Nat → List Int
  | none => l
  | some i => nextAt l i
theorem stuck_yes {N n : Nat} {l : List Int} {j : Nat} {V : Int} (hl : l.length = n) (hV : l.getD j 0 = V) (h : ¬ V + ((n - j : Nat) : Int) < (N : Int)) : stuckB N l j = true := by
  unfold stuckB
  rw [hV, hl, decide_eq_false h]
  rfl
theorem stuck_no {N n : Nat} {l : List Int} {j : Nat} {V : Int} (hl : l.length = n) (hV : l.getD j 0 = V) (h : V + ((n - j : Nat) : Int) < (N : Int)) : stuckB N l j = false := by
  unfold stuckB
  rw [hV, hl, decide_eq_true h]
  rfl
/-- What lies between two rounds of toNextWay. -/
def NextInv (w : World) (g n cap N : Nat) (l : List Int) (pre : List (Fin n)) (W : World) : Prop :=
  (Boxed W w.heap.size 29 (.slice (some ⟨g, 0, none⟩) n cap) ∧ Boxed W (w.heap.size + 1) 3 (.int .i64 N) ∧ Boxed W (w.heap.size + 1 + 1) 4 (.bool false) ∧ ∀ x ∈ pre, stuckB N l (n - 1 - x.1) = true) ∧ Below w.heap.size w W
/-- What a round leaves that has found the next way. -/
def NextEnd (w : World) (base g n cap N : Nat) (l : List Int) (c : Code) (pre : List (Fin n)) (W : World) : Prop :=
  c = .ret ∧ ∃ (ys : List (Fin n)) (x : Fin n), pre = ys ++ [x] ∧ (∀ y ∈ ys, stuckB N l (n - 1 - y.1) = true) ∧ stuckB N l (n - 1 - x.1) = false ∧ Row base W (.slice (some ⟨g, 0, none⟩) n cap) (nextAt l (n - 1 - x.1)) ∧ w.grownBy W (some g) ∧ Boxed W (w.heap.size + 1 + 1) 4 (.bool true)
theorem nextInv_own (w : World) (g n cap N : Nat) (l : List Int) (S : Nat) (hS : w.heap.size ≤ S) : OwnFrom S (NextInv w g n cap N l) := by
  refine OwnFrom.and (Own.from (fun s A B row hs hg hr => ?_) S) (ownFrom_below (Nat.le_refl _) hS)
  have kb : ∀ (b : Nat) (t : TypeId) (v : Value), Boxed A b t v → Boxed B b t v := fun b t v hb => boxed_own b t (fun _ : Unit => v) () A B row hb hg hr
  exact ⟨kb _ _ _ hs.1, kb _ _ _ hs.2.1, kb _ _ _ hs.2.2.1, hs.2.2.2⟩
theorem nextEnd_own (w : World) (base g n cap N : Nat) (l : List Int) (S : Nat) (hS : w.heap.size ≤ S) (hg0 : g < w.heap.size) (c : Code) : OwnFrom S (NextEnd w base g n cap N l c) := by
  rintro s A B row ⟨hc, ys, x, h1, h2, h3, h4, h5, h6⟩ hg hr
  refine ⟨hc, ys, x, h1, h2, h3, h4.kept hg (.inr fun e => ?_), ?_, boxed_own (w.heap.size + 1 + 1) 4 (fun _ : Unit => Value.bool true) () A B row h6 hg fun r e => (hr r e).2⟩
  · have := (hr g e.symm).1
    omega
  · exact ⟨hg.os.trans h5.os, hg.tape.trans h5.tape, hg.output.trans h5.output, Nat.le_trans h5.size hg.size, fun b hb hne => (hg.block b (Nat.lt_of_lt_of_le hb h5.size) (fun e => by have := (hr b e.symm).1; omega)).trans (h5.block b hb hne)⟩
theorem grown_below8 {B : Nat} {w W W' : World} {g : Nat} (h : Below w.heap.size w W) (hg : W.grownBy W' (some g)) : w.grownBy W' (some g) :=
  ⟨hg.os.trans h.os, hg.tape.trans h.tape, hg.output.trans h.output, Nat.le_trans h.size hg.size, fun b hb hne => (hg.block b (Nat.lt_of_lt_of_le hb h.size) hne).trans (h.block b hb)⟩
theorem grown_set8 {w W : World} {g B : Nat} (h : w.grownBy W (some g)) (hB : w.heap.size ≤ B) (u : Value) : w.grownBy (W.setCell ⟨B, 0, none⟩ u) (some g) :=
  ⟨h.os, h.tape, h.output, by simpa using h.size, fun b hb hne => (Below.heap_setCell _ _ _ _ (by show b ≠ B; omega)).trans (h.block b hb hne)⟩
theorem grown_put8 {w W : World} {g D : Nat} {o : Obj} (h : w.grownBy W (some g)) (hD : w.heap.size ≤ D) : w.grownBy (W.putObj D o) (some g) :=
  ⟨h.os, h.tape, h.output, by simpa using h.size, fun b hb hne => (World.putObj_heap_other (by omega)).trans (h.block b hb hne)⟩
theorem came_last8 {n k : Nat} {ys : List (Fin n)} {x : Fin n} (h : CameK (ys ++ [x]) k) : CameK ys x.1 := by
  have hl := h.length
  rw [List.length_append] at hl
  unfold CameK at h ⊢
  have hk : k = ys.length + 1 := by simpa using hl.symm
  rw [hk, List.map_append, List.range_succ] at h
  have h2 := List.append_inj h (by simp)
  have h3 : x.1 = ys.length := by simpa using h2.2
  rw [h3]
  exact h2.1
theorem came_has8 {n k t : Nat} {ys : List (Fin n)} (h : CameK ys k) (ht : t < k) : ∃ y ∈ ys, y.1 = t := by
  have h1 : t ∈ ys.map (fun x => x.1) := by
    rw [show ys.map (fun x => x.1) = List.range k from h]
    exact List.mem_range.2 ht
  obtain ⟨y, hy, e⟩ := List.mem_map.1 h1
  exact ⟨y, hy, e⟩
theorem next_none {N n : Nat} {l : List Int} {q : Option Nat} (hq : NextAt N n l q) (h : ∀ j, j < n → stuckB N l j = true) : q = none := by
  cases q with
  | none => rfl
  | some i =>
    have h1 := h i hq.1
    rw [hq.2.1] at h1
    cases h1
theorem next_some {N n : Nat} {l : List Int} {q : Option Nat} {j : Nat} (hq : NextAt N n l q) (hj : j < n) (h1 : stuckB N l j = false) (h2 : ∀ i, j < i → i < n → stuckB N l i = true) : q = some j := by
  cases q with
  | none =>
    have := hq j hj
    rw [h1] at this
    cases this
  | some i =>
    obtain ⟨q1, q2, q3⟩ := hq
    by_cases e : i = j
    · rw [e]
    · exfalso
      by_cases hlt : i < j
      · have := q3 j hlt hj
        rw [h1] at this
        cases this
      · have := h2 i (by omega) q1
        rw [q2] at this
        cases this
set_option maxRecDepth 100000 in
set_option maxHeartbeats 3000000 in
theorem implToNextWay_any (w : World) (base g n cap : Nat) (l : List Int) (N : Nat) (hrow : Row base w (.slice (some ⟨g, 0, none⟩) n cap) l) (hl : l.length = n) (hn : n ≤ 7) (hN : N ≤ 8) (hcap : n ≤ cap) (hcap2 : cap ≤ 9223372036854775807)
    (hv : ∀ j, j < n → 0 ≤ l.getD j 0 ∧ l.getD j 0 ≤ 8) (q : Option Nat) (hq : NextAt N n l q) :
    Calls Try.prog 65 #[.slice (some ⟨g, 0, none⟩) n cap, .int .i64 N] w fun e w' => e = .returned (.bool q.isSome) ∧ RowTurned base g n cap (nextL l q) w w' := by
  refine (callsIn_wide (n := 6)).1 ?_
  refine callsIn_of_wp_marks Try.func65 rfl trivial ?_ rfl
  simp only [Try.ntmps65, List.size_toArray, List.length_cons, List.length_nil, Nat.reduceAdd, Nat.reduceSub, Array.replicate_succ, Array.replicate_zero, List.push_toArray, List.append_toArray, List.nil_append, List.cons_append]
  have hgl : g < w.heap.size := (World.ownsRow.lt hrow g rfl).2
  have hbg : base ≤ g := (World.ownsRow.lt hrow g rfl).1
  have hA1 := (Below.refl w.heap.size w).alloc (Nat.le_refl _) (.cells #[.slice (some ⟨g, 0, none⟩) n cap] 29 (0, 0))
  have hA3 := (hA1.alloc (by simp) (.cells #[.int .i64 N] 3 (0, 0))).alloc (by simp; omega) (.cells #[.bool false] 4 (0, 0))
  have hb1 : Boxed (((w.alloc (.cells #[.slice (some ⟨g, 0, none⟩) n cap] 29 (0, 0))).alloc (.cells #[.int .i64 N] 3 (0, 0))).alloc (.cells #[.bool false] 4 (0, 0))) w.heap.size 29 (.slice (some ⟨g, 0, none⟩) n cap) := ((Boxed.new w 29 _).alloc _).alloc _
  have hb2 : Boxed (((w.alloc (.cells #[.slice (some ⟨g, 0, none⟩) n cap] 29 (0, 0))).alloc (.cells #[.int .i64 N] 3 (0, 0))).alloc (.cells #[.bool false] 4 (0, 0))) (w.heap.size + 1) 3 (.int .i64 N) := by
    have := Boxed.new (w.alloc (.cells #[.slice (some ⟨g, 0, none⟩) n cap] 29 (0, 0))) 3 (.int .i64 N)
    rw [World.size_alloc] at this
    exact this.alloc _
  have hb3 : Boxed (((w.alloc (.cells #[.slice (some ⟨g, 0, none⟩) n cap] 29 (0, 0))).alloc (.cells #[.int .i64 N] 3 (0, 0))).alloc (.cells #[.bool false] 4 (0, 0))) (w.heap.size + 1 + 1) 4 (.bool false) := by
    have := Boxed.new ((w.alloc (.cells #[.slice (some ⟨g, 0, none⟩) n cap] 29 (0, 0))).alloc (.cells #[.int .i64 N] 3 (0, 0))) 4 (.bool false)
    rw [World.size_alloc, World.size_alloc] at this
    exact this
  have hs3 : (((w.alloc (.cells #[.slice (some ⟨g, 0, none⟩) n cap] 29 (0, 0))).alloc (.cells #[.int .i64 N] 3 (0, 0))).alloc (.cells #[.bool false] 4 (0, 0))).heap.size = w.heap.size + 3 := by simp
  have HR := Lib.hid hrow
  have HL := Lib.hid hl
  have HV := Lib.hid hv
  have HQ := Lib.hid hq
  have c1 := hb1.cell
  clear hrow hl hv hq hA1
  gi_wp2
  generalize ((w.alloc (.cells #[.slice (some ⟨g, 0, none⟩) n cap] 29 (0, 0))).alloc (.cells #[.int .i64 N] 3 (0, 0))).alloc (.cells #[.bool false] 4 (0, 0)) = wa at hA3 hb1 hb2 hb3 hs3 c1 ⊢
  refine ⟨trivial, ?_⟩
  refine (backwardI_in _ _ _ _ _).mono ?_
  rintro e w' ⟨rfl, rfl⟩
  have hbn := (Below.refl wa.heap.size wa).alloc (Nat.le_refl _) (.cells #[.slice (some ⟨g, 0, none⟩) n cap] 29 (0, 0))
  have hbs := Boxed.new wa 29 (.slice (some ⟨g, 0, none⟩) n cap)
  have hs4 : (wa.alloc (.cells #[.slice (some ⟨g, 0, none⟩) n cap] 29 (0, 0))).heap.size = w.heap.size + 4 := by simp; omega
  rw [hs3] at hbs
  have HA := Lib.hid (hA3.trans (hbn.mono (by omega)))
  have HB1 := Lib.hid (hb1.alloc (.cells #[.slice (some ⟨g, 0, none⟩) n cap] 29 (0, 0)))
  have HB2 := Lib.hid (hb2.alloc (.cells #[.slice (some ⟨g, 0, none⟩) n cap] 29 (0, 0)))
  have HB3 := Lib.hid (hb3.alloc (.cells #[.slice (some ⟨g, 0, none⟩) n cap] 29 (0, 0)))
  have HBS := Lib.hid hbs
  clear hA3 hb1 hb2 hb3 hbn hbs c1
  gi_wp2
  generalize wa.alloc (.cells #[.slice (some ⟨g, 0, none⟩) n cap] 29 (0, 0)) = W0 at hs4 HA HB1 HB2 HB3 HBS ⊢
  have hrw : ∀ (W : World), Below w.heap.size w W → Row base W (.slice (some ⟨g, 0, none⟩) n cap) l := fun W h => HR.out.below h
  have HRW := Lib.hid hrw
  have hcell : ∀ (W : World), Below w.heap.size w W → ∀ i, i < n → W.cell? ⟨g, i, none⟩ = some (.int .i64 (l.getD i 0)) := fun W h i hi => by
    have h1 := hrw W h
    unfold Row at h1
    rw [HL.out] at h1
    rw [World.ownsRow.cellAt h1 i (by omega)]
    exact icells_get l i (by rw [HL.out]; exact hi)
  have HCL := Lib.hid hcell
  have hI0 : NextInv w g n cap N l [] W0 := ⟨⟨HB1.out, HB2.out, HB3.out, fun x hx => by cases hx⟩, HA.out⟩
  clear hrw hcell
  refine wpIn_rangeFunc_ownG rfl (by omega) (gf := 86) (lb := #[.pointer (some ⟨w.heap.size + 3, 0, none⟩)]) rfl trivial (enters_of Try.func86 (by kernel_rfl) rfl)
    (backI_stops _ (by omega) (w.heap.size + 3) g n cap l (by omega) (KeepB w.heap.size (w.heap.size + 3) g) (fun X Y h => h.2) W0 _ HBS.out (by omega) (HCL.out W0 HA.out))
    keepB_t (keepB_b (by omega) (by omega) (by omega)) (Below.refl _ _) (fun _ => rfl)
    (NextInv w g n cap N l)
    (NextEnd w base g n cap N l)
    (nextInv_own w g n cap N l W0.heap.size (by omega))
    (nextEnd_own w base g n cap N l W0.heap.size (by omega) hgl)
    hI0 ?a1 ?assign ?body ?done ?stop
  case assign =>
    intro l x W K hK
    simp only [intEnc]
    gi_wp2
    exact hK
  case body =>
    rintro lp pre x W ⟨⟨b1, b2, b3, hpre⟩, hB⟩ hlen'
    obtain ⟨j, hj⟩ : ∃ j, n - 1 - x.1 = j := ⟨_, rfl⟩
    have hjn : j < n := by omega
    obtain ⟨V, hV⟩ : ∃ V, l.getD j 0 = V := ⟨_, rfl⟩
    have hV2 : l[j]?.getD 0 = V := by rw [← List.getD_eq_getElem?_getD]; exact hV
    obtain ⟨E, hE⟩ : ∃ E, (n : Int) - (j : Int) = E := ⟨_, rfl⟩
    have hD : ((n - j : Nat) : Int) = E := by omega
    have hv8 := HV.out j hjn
    rw [hV] at hv8
    have hw2 : wrap64 (V + E) = V + E := IntWalk.wrap64_in _ (by omega)
    have c1 := b1.cell
    have c2 := b2.cell
    have HB := Lib.hid hB
    have HB3 := Lib.hid b3
    have HPR := Lib.hid hpre
    have HB1 := Lib.hid b1
    have HB2 := Lib.hid b2
    simp only [hj, hV2]
    by_cases ht : V + E < (N : Int)
    · have htd : decide (V + E < (N : Int)) = true := decide_eq_true ht
      have HS := Lib.hid (stuck_no (N := N) HL.out hV (by rw [hD]; exact ht))
      have hcj : ¬ cap = j := by omega
      have hw3 : wrap64 (V + 1) = V + 1 := IntWalk.wrap64_in _ (by omega)
      have HT := Lib.hid (implRiseFrom_any W base g n cap l (HRW.out W HB.out) HL.out hn j (by omega) (cap - j) (V + 1) ⟨by omega, by omega⟩)
      have HJ := Lib.hid hj
      have HVV := Lib.hid hV
      clear hB b1 b2 b3 hpre hj hV hV2 hD
      gi_wp2
      refine ⟨trivial, ?_⟩
      refine (callsIn_wide.2 HT.out).mono ?_
      rintro e W1 ⟨⟨v, rfl⟩, hr, hg⟩
      have hbo : Boxed W1 (w.heap.size + 1 + 1) 4 (.bool false) := HB3.out.kept hg (fun e => by have := Option.some.inj e; omega)
      have k1 := hbo.cell
      have k2 := hbo.frozen
      have HR1 := Lib.hid hr
      have HG1 := Lib.hid hg
      have HBO := Lib.hid hbo
      clear hr hg hbo c1 c2
      gi_wp2
      refine ⟨?_, rfl, pre, x, rfl, HPR.out, by rw [HJ.out]; exact HS.out, ?_, ?_, HBO.out.set _⟩
      · exact (KeepsFrom.of_grownBy HG1.out fun j e => by cases e; omega).trans ((KeepsOthers.setCell _ _ _).from _)
      · rw [HJ.out, ← rise_next HL.out hjn, HVV.out]
        exact HR1.out.kept (grownBy_setCell' _ _ _) (.inr fun e => by have e1 : g = _ := Option.some.inj e; omega)
      · exact grown_set8 (grown_below8 (B := 0) HB.out HG1.out) (by omega) _
    · have htd : decide (V + E < (N : Int)) = false := decide_eq_false ht
      have HS := Lib.hid (stuck_yes (N := N) HL.out hV (by rw [hD]; exact ht))
      have HJ := Lib.hid hj
      clear hB b1 b2 b3 hpre hj hV hV2 hD
      gi_wp2
      refine ⟨KeepsFrom.refl _ _, ⟨Below.refl _ _, rfl, rfl⟩, ⟨HB1.out, HB2.out, HB3.out, fun y hy => ?_⟩, HB.out⟩
      rcases List.mem_append.1 hy with h | h
      · exact HPR.out y h
      · simp only [List.mem_singleton] at h
        rw [h, HJ.out]
        exact HS.out
  case done =>
    rintro D zs W hD hS ⟨⟨b1, b2, b3, hpre⟩, hB⟩ hK
    have hqn := next_none HQ.out fun j hj => by
      have := hpre ⟨n - 1 - j, by omega⟩ (CameK.mem hS _)
      rw [show n - 1 - (n - 1 - j) = j by omega] at this
      exact this
    subst hqn
    have k1 := b3.cell
    have k2 := b3.frozen
    have HB3' := Lib.hid b3
    have HBB := Lib.hid hB
    clear b1 b2 b3 hpre hB
    gi_wp2
    have hK' : (W.setCell ⟨w.heap.size + 1 + 1, 0, none⟩ (.bool false)).heap[D]? = some (.deferred (some [])) := (Below.heap_setCell _ _ _ _ (by show D ≠ w.heap.size + 1 + 1; omega)).trans hK
    refine marks_ret1 rfl hK' (results_bool rfl _ _ (w.heap.size + 1 + 1) _ false rfl (boxed_put (HB3'.out.set _) (by omega) _) Try.underlying4) ⟨rfl, ?_, ?_⟩
    · exact ((HRW.out W HBB.out).kept (grownBy_setCell' _ _ _) (.inr fun e => by have e1 : g = _ := Option.some.inj e; omega)).kept (grownBy_putObj' _ _ _) (.inr fun e => by have e1 : g = _ := Option.some.inj e; omega)
    · exact grown_put8 (grown_set8 (grown_below8 (B := 0) (Below.refl _ _) ⟨HBB.out.os, HBB.out.tape, HBB.out.output, HBB.out.size, fun b hb _ => HBB.out.block b hb⟩) (by omega) _) (by omega)
  case stop =>
    rintro D c pre W hD ⟨k, hk⟩ ⟨rfl, ys, x, rfl, h2, h3, h4, h5, h6⟩ hK
    have hqs := next_some HQ.out (show n - 1 - x.1 < n by omega) h3 fun i hi1 hi2 => by
      obtain ⟨y, hy, e⟩ := came_has8 (came_last8 hk) (show n - 1 - i < x.1 by omega)
      have := h2 y hy
      rw [e, show n - 1 - (n - 1 - i) = i by omega] at this
      exact this
    subst hqs
    have HB3' := Lib.hid h6
    have H4 := Lib.hid h4
    have H5 := Lib.hid h5
    clear h2 h3 h4 h5 h6
    gi_wp2
    refine marks_ret1 rfl hK (results_bool rfl _ _ (w.heap.size + 1 + 1) _ true rfl (boxed_put HB3'.out (by omega) _) Try.underlying4) ⟨rfl, ?_, ?_⟩
    · exact H4.out.kept (grownBy_putObj' _ _ _) (.inr fun e => by have e1 : g = _ := Option.some.inj e; omega)
    · exact grown_put8 H5.out (by omega)
end Go.Proofs.Ytkmcfbopilieeaa

end

/-! YtkmcfbopilieeaaCutW -/
section

namespace Go.Proofs.Ytkmcfbopilieeaa
open Go.RowKit Go.Shelf
set_option linter.unusedVariables false
attribute [local go_sem] Oper.semAt_some

/-- All ways, as they are told. -/
def waysI (ops stages : Int) : List (List Int) := if 1 ≤ stages ∧ stages ≤ ops ∧ ops ≤ 8 then ways ops.toNat stages.toNat else []
def wayAt (ops stages : Int) (p : Nat) : List Int := (waysI ops stages).getD p []
theorem waysI_no {ops stages : Int} (h : ¬ (1 ≤ stages ∧ stages ≤ ops ∧ ops ≤ 8)) : waysI ops stages = [] := if_neg h
theorem waysI_yes {n k : Nat} (h1 : 1 ≤ k) (h2 : k ≤ n) (h3 : n ≤ 8) : waysI n k = ways n k := by
  unfold waysI
  rw [if_pos ⟨by omega, by omega, by omega⟩, Int.toNat_natCast, Int.toNat_natCast]
theorem wayAt_get {n k p : Nat} (h1 : 1 ≤ k) (h2 : k ≤ n) (h3 : n ≤ 8) (hp : p < (ways n k).length) : (ways n k)[p]? = some (wayAt n k p) := by
  unfold wayAt
  rw [waysI_yes h1 h2 h3, List.getD_eq_getElem?_getD, List.getElem?_eq_getElem hp]
  rfl
theorem clone_notnil8 (b p n c : Nat) (w : World) : (binOp .eql 29 (.slice (some ⟨b, p, none⟩) n c) (.slice none 0 0)).run Try.prog w = .ok (.bool false) w := by kernel_rfl
theorem row_new {base : Nat} {w : World} {v : Value} {n : Nat} {ds : List Int} (h : w.ownsRow base 3 1 v (0 + n) ([] ++ icells ds)) : Row base w v ds := by
  have hl : ds.length = n := by
    have := h.1
    rw [List.nil_append, icells_length] at this
    omega
  unfold Row
  rw [hl]
  simpa using h
set_option maxRecDepth 100000 in
/-- A copy of numbers. -/
theorem implClone8 (w : World) (b p n c : Nat) (ds : List Int) (h : IntsIn w.heap.size w (some ⟨b, p, none⟩) n ds) :
    Calls Try.prog 66 #[.slice (some ⟨b, p, none⟩) n c] w (RowV w ds) := by
  obtain ⟨i0, hi0, hz0, hz1, hz2⟩ := info_parts Try.infoI64
  have hl := h.len
  have hroom := h.room
  have HY := Lib.hid h
  have HL := Lib.hid hl
  have hnn := clone_notnil8 b p n c
  have hE0 : (w.alloc (.cells #[] 3 (0, 0))).ownsRow w.heap.size 3 1 (.slice (some ⟨w.heap.size, 0, none⟩) 0 0) 0 [] := Row.empty w _ rfl
  clear h hl
  go_enter Try.func66, Try.ntmps66
  go_wp2_with (at_builtin; refine wpList_append_own _ rfl _ _ 29 rfl w.heap.size 3 i0 (.int .i64 0) 1 8 Try.underlying29 hi0 hz0 hz1 hz2 rfl (by decide) _ _ _ rfl hE0 ⟨b, p, none⟩ n c (icells ds) rfl (by rw [icells_length, HL.out, Nat.mul_one]) (ints_news (HY.out.below ((Below.refl w.heap.size w).alloc (Nat.le_refl _) _) (by omega))) (icells_one _) (by unfold maxLen; omega) (by omega) (by simp) ?_; intro v2 w2 hown hgrow _; have hr := row_new hown; have hb := ((Below.refl w.heap.size w).alloc (Nat.le_refl _) (.cells #[] 3 (0, 0))).grown hgrow (by simp) (fun k e => by cases e; exact Nat.le_refl _); have HR := Lib.hid hr; have HB := Lib.hid hb; clear hown hgrow hr hb)
  go_ret
  exact ⟨v2, rfl, HR.out, HB.out⟩
theorem Row.same {base g n c : Nat} {w w' : World} {xs : List Int} (h : Row base w (.slice (some ⟨g, 0, none⟩) n c) xs) (hg : w'.heap[g]? = w.heap[g]?) : Row base w' (.slice (some ⟨g, 0, none⟩) n c) xs := by
  refine ⟨h.1, ?_⟩
  rcases h.2 with h2 | ⟨g', cap, cur, e, h3, h4, h5⟩
  · exact .inl h2
  · refine .inr ⟨g', cap, cur, e, h3, ?_, h5⟩
    have e2 : g = g' := by
      simp only [Value.slice.injEq, Option.some.injEq, Addr.mk.injEq] at e
      exact e.1.1
    subst e2
    rw [hg]
    exact h4
theorem way_step {n k p : Nat} (h1 : 1 ≤ k) (h2 : k ≤ n) (h3 : n ≤ 8) (hp : p < (ways n k).length) :
    ∃ q, NextAt n (k - 1) (wayAt n k p) q ∧ q.isSome = decide (p + 1 < (ways n k).length) ∧ (p + 1 < (ways n k).length → nextL (wayAt n k p) q = wayAt n k (p + 1)) ∧ (wayAt n k p).length = k - 1 ∧ cutsB n (wayAt n k p) = true := by
  have hw := ways_at h1 h2 h3
  have hg := wayAt_get h1 h2 h3 hp
  obtain ⟨hl, hc⟩ := hw.len p _ hg
  by_cases hn : p + 1 < (ways n k).length
  · have hg' := wayAt_get h1 h2 h3 hn
    obtain ⟨i, i1, i2, i3, i4⟩ := hw.step p _ _ hg hg'
    exact ⟨some i, ⟨i1, i2, i3⟩, (decide_eq_true hn).symm, fun _ => i4.symm, hl, hc⟩
  · exact ⟨none, hw.last p _ hg (by omega), (decide_eq_false hn).symm, fun h => absurd h hn, hl, hc⟩
theorem way_range {n : Nat} {l : List Int} (hc : cutsB n l = true) (h8 : n ≤ 8) : ∀ j, j < l.length → 0 ≤ l.getD j 0 ∧ l.getD j 0 ≤ 8 := fun j hj => by
  have h1 := cuts_rise (cutsB_has hc) j (by omega)
  have h2 := cutAt_has (cutsB_has hc j hj)
  omega
/-- The row at a block, as it reads. -/
def readK (w : World) (g C : Nat) : List Int := mapK (fun j => match w.cell? ⟨g, j, none⟩ with | some (.int _ x) => x | _ => 0) C
theorem row_read {base g C c : Nat} {w : World} {l : List Int} (h : Row base w (.slice (some ⟨g, 0, none⟩) C c) l) (hl : l.length = C) : readK w g C = l := by
  have h1 : w.ownsRow base 3 1 (.slice (some ⟨g, 0, none⟩) C c) C (icells l) := by
    unfold Row at h
    rw [hl] at h
    exact h
  refine List.ext_getElem (by unfold readK; rw [mapK_length, hl]) fun j h2 h3 => ?_
  have hj : j < C := by omega
  have e2 := mapK_get (fun j => match w.cell? ⟨g, j, none⟩ with | some (.int _ x) => x | _ => 0) C j hj
  rw [List.getD_eq_getElem?_getD, List.getElem?_eq_getElem (by rw [mapK_length]; exact hj)] at e2
  simp only [Option.getD_some] at e2
  refine Eq.trans e2 ?_
  rw [World.ownsRow.cellAt h1 j (by omega), icells_get l j h3]
  simp [List.getD, h3]
/-- How much is still to come. -/
def leftW (g C : Nat) (t : Value) (w : World) : Nat := match t with
  | .bool true => 5000001 - rankW (readK w g C)
  | _ => 0
theorem row_ints8 {base g C c : Nat} {w : World} {xs : List Int} (h : Row base w (.slice (some ⟨g, 0, none⟩) C c) xs) (hl : xs.length = C) (hr : C ≤ 1048576) : IntsIn w.heap.size w (some ⟨g, 0, none⟩) C xs := by
  subst hl
  obtain ⟨a', c', e, hi⟩ := h.form
  cases e
  exact hi hr
set_option maxRecDepth 100000 in
set_option maxHeartbeats 3000000 in
theorem ways1_given (n : Nat) (hn : 1 ≤ n) (B1 B2 : Nat) (ops stages : Int) (Kp : World → World → Prop) (hKp : ∀ X Y, Kp X Y → Y.heap[B1]? = X.heap[B1]? ∧ Y.heap[B2]? = X.heap[B2]?) (w : World) (t1 t2 : TypeId) (h1 : Boxed w B1 t1 (.int .i64 ops)) (h2 : Boxed w B2 t2 (.int .i64 stages)) (b0 : Nat) :
    RowsGiven Fence.wide n Try.prog 63 #[.pointer (some ⟨B1, 0, none⟩), .pointer (some ⟨B2, 0, none⟩)] Kp (wayAt ops stages) (waysI ops stages).length w b0 := by
  intro l J W hW hb0 hJ hY h0
  subst hb0
  have g1 : Boxed W B1 t1 (.int .i64 ops) := (hW.block B1 h1.lt).trans h1
  have g2 : Boxed W B2 t2 (.int .i64 stages) := (hW.block B2 h2.lt).trans h2
  have c1 := g1.cell
  have c2 := g2.cell
  have HY := Lib.hid hY
  have HJ := Lib.hid hJ
  have H0 := Lib.hid h0
  have G1 := Lib.hid g1
  have G2 := Lib.hid g2
  clear hY hJ h0 hW h1 h2 g1 g2
  refine callsIn_of_wp Try.func63 rfl trivial ?_ rfl
  simp only [Try.ntmps63, List.size_toArray, List.length_cons, List.length_nil, Nat.reduceAdd, Nat.reduceSub, Array.replicate_succ, Array.replicate_zero, List.push_toArray, List.append_toArray, List.nil_append, List.cons_append]
  by_cases ha : ops > 8
  · have hN : (waysI ops stages).length = 0 := by rw [waysI_no (by omega)]; rfl
    have HN := Lib.hid hN
    clear hN
    have d1 : decide (ops > 8) = true := decide_eq_true ha
    have d1' : 8 < ops := ha
    gi_wp2
    refine bodyPost_ret (results_none rfl _ _ _) rfl ⟨⟨_, rfl⟩, [], by rw [HN.out]; rfl, H0.out⟩
  · have d1 : decide (ops > 8) = false := decide_eq_false ha
    by_cases hb : stages < 1
    · have hN : (waysI ops stages).length = 0 := by rw [waysI_no (by omega)]; rfl
      have HN := Lib.hid hN
      clear hN
      have d2 : decide (stages < 1) = true := decide_eq_true hb
      gi_wp2
      refine bodyPost_ret (results_none rfl _ _ _) rfl ⟨⟨_, rfl⟩, [], by rw [HN.out]; rfl, H0.out⟩
    · have d2 : decide (stages < 1) = false := decide_eq_false hb
      by_cases hc : stages > ops
      · have hN : (waysI ops stages).length = 0 := by rw [waysI_no (by omega)]; rfl
        have HN := Lib.hid hN
        clear hN
        have d3 : decide (stages > ops) = true := decide_eq_true hc
        gi_wp2
        refine bodyPost_ret (results_none rfl _ _ _) rfl ⟨⟨_, rfl⟩, [], by rw [HN.out]; rfl, H0.out⟩
      · have d3 : decide (stages > ops) = false := decide_eq_false hc
        obtain ⟨m, rfl⟩ : ∃ m : Nat, ops = m := ⟨ops.toNat, by omega⟩
        obtain ⟨k, rfl⟩ : ∃ k : Nat, stages = k := ⟨stages.toNat, by omega⟩
        have m8 : m ≤ 8 := by omega
        have k1 : 1 ≤ k := by omega
        have km : k ≤ m := by omega
        obtain ⟨C, hC⟩ : ∃ C, k - 1 = C := ⟨_, rfl⟩
        have hw1 : (k : Int) - 1 = (C : Int) := by omega
        have hC7 : C ≤ 7 := by omega
        have hmk := run_make_many (P := Try.prog) 29 3 _ 1 8 Try.underlying29 Try.infoI64 C (by omega) (by omega)
        have hms := Row.made W C (by omega)
        have hbs : Below W.heap.size W (W.alloc (.cells (madeCells #[.int .i64 0] C) 3 (0, 0))) := (Below.refl _ _).alloc (Nat.le_refl _) _
        have hsz : (W.alloc (.cells (madeCells #[.int .i64 0] C) 3 (0, 0))).heap.size = W.heap.size + 1 := by simp
        have hJ1 : J [] (W.alloc (.cells (madeCells #[.int .i64 0] C) 3 (0, 0))) := HJ.out _ _ _ H0.out (World.grownBy_alloc W _ _)
        have HMS := Lib.hid hms
        have HBS := Lib.hid hbs
        have HJ1 := Lib.hid hJ1
        have hw8 := ways_at k1 km m8
        have HW8 := Lib.hid hw8
        have HNW : Hid ((waysI (m : Int) (k : Int)).length = (ways m k).length) := Lib.hid (by rw [waysI_yes k1 km m8])
        have hsome := hw8.some
        have hB1 : B1 < W.heap.size := G1.out.lt
        have hB2 : B2 < W.heap.size := G2.out.lt
        have HC := Lib.hid hC
        clear hms hbs hJ1 hw8 hC
        gi_wp2
        generalize W.alloc (.cells (madeCells #[.int .i64 0] C) 3 (0, 0)) = wa at HMS HBS HJ1 hsz ⊢
        clear hmk
        refine ⟨trivial, ?_⟩
        have hT := (implRiseFrom_any wa W.heap.size W.heap.size C C (noughts C) HMS.out (by unfold noughts; simp) hC7 0 (Nat.zero_le _) C 1 ⟨by omega, by omega⟩)
        rw [Nat.sub_zero] at hT
        have HT := Lib.hid hT
        clear hT
        with_reducible refine (callsIn_wide.2 HT.out).mono ?_
        rintro e w1 ⟨⟨v, rfl⟩, hr, hg⟩
        rw [show noughts C = List.replicate C 0 from rfl, rise_first] at hr
        have hf : firstW C = wayAt m k 0 := by
          have e1 := HW8.out.first
          rw [wayAt_get k1 km m8 hsome, HC.out] at e1
          exact (Option.some.inj e1).symm
        rw [hf] at hr
        have hJ2 : J [] w1 := HJ.out _ _ _ HJ1.out hg
        have q1 : Boxed w1 B1 t1 (.int .i64 m) := (hg.block B1 (by omega) (fun e => by have := Option.some.inj e; omega)).trans ((HBS.out.block B1 hB1).trans G1.out)
        have q2 : Boxed w1 B2 t2 (.int .i64 k) := (hg.block B2 (by omega) (fun e => by have := Option.some.inj e; omega)).trans ((HBS.out.block B2 hB2).trans G2.out)
        have hs1 : W.heap.size < w1.heap.size := by have := hg.size; omega
        have HR1 := Lib.hid hr
        have HJ2 := Lib.hid hJ2
        have Q1 := Lib.hid q1
        have Q2 := Lib.hid q2
        clear hr hg hJ2 q1 q2 hf c1 c2 HT
        gi_wp2
        gi_loopw [5] (fun t wr => ∃ (p : Nat) (pre : List Value), pre.length = p ∧ p ≤ (ways m k).length ∧ t = .bool (decide (p < (ways m k).length)) ∧ J pre wr ∧ (p < (ways m k).length → Row W.heap.size wr (.slice (some ⟨W.heap.size, 0, none⟩) C C) (wayAt m k p)) ∧ Boxed wr B1 t1 (.int .i64 m) ∧ Boxed wr B2 t2 (.int .i64 k) ∧ W.heap.size < wr.heap.size)
          (leftW W.heap.size C)
        case atStart => exact ⟨0, [], rfl, Nat.zero_le _, by rw [decide_eq_true (show 0 < (ways m k).length by omega)], HJ2.out, fun _ => HR1.out, Q1.out, Q2.out, hs1⟩
        case round =>
          obtain ⟨p, pre, hpl, hp, rfl, hJp, hrp, b1, b2, hsw⟩ := hrel
          by_cases hlt : p < (ways m k).length
          · obtain ⟨q, hq, hqs, hqn, hll, hcc⟩ := way_step k1 km m8 hlt
            rw [HC.out] at hq hll
            have hrow := hrp hlt
            have hrange := way_range hcc m8
            rw [hll] at hrange
            obtain ⟨L, hL⟩ : ∃ L, wayAt m k p = L := ⟨_, rfl⟩
            rw [hL] at hrow hq hqn hll hrange
            have hcl := implClone8 wr W.heap.size 0 C C L (row_ints8 hrow hll (by omega))
            have HCL := Lib.hid hcl
            have HRW := Lib.hid hrow
            have HQ := Lib.hid hq
            have HQS := Lib.hid hqs
            have HQN := Lib.hid hqn
            have HLL := Lib.hid hll
            have HRG := Lib.hid hrange
            have HL := Lib.hid hL
            have HJP := Lib.hid hJp
            have P1 := Lib.hid b1
            have P2 := Lib.hid b2
            have HPL := Lib.hid hpl
            have hlen : p < (waysI (m : Int) (k : Int)).length := by rw [HNW.out]; exact hlt
            rw [decide_eq_true hlt]
            clear hrow hq hqs hqn hll hcc hrange hL hcl hJp b1 b2 hrp hpl
            gi_wp2
            refine ⟨trivial, ?_⟩
            refine (callsIn_wide.2 HCL.out).mono ?_
            rintro e W1 ⟨v, rfl, hr1, hb1⟩
            obtain ⟨fn, tmps, assign, body, hy, hR⟩ := HY.out pre v wr W1 HJP.out hsw hb1 (by rw [HPL.out, HL.out]; exact hr1) (by rw [HPL.out]; exact hlen)
            have HR := Lib.hid hR
            have HB1 := Lib.hid hb1
            have hs1' := hb1.size
            clear hR hr1 hb1 HCL
            gi_wp2
            refine HR.out.mono ?_
            rintro e W3 ⟨rfl, hJ3, hk3, hb3, hs3⟩
            obtain ⟨k1', k2'⟩ := hKp _ _ hk3
            have hbw := HB1.out
            have p1 : Boxed W3 B1 t1 (.int .i64 m) := k1'.trans ((hbw.block B1 (by omega)).trans P1.out)
            have p2 : Boxed W3 B2 t2 (.int .i64 k) := k2'.trans ((hbw.block B2 (by omega)).trans P2.out)
            have hrow3 := Row.same (HRW.out.below hbw) hb3
            have HT := Lib.hid (implToNextWay_any W3 W.heap.size W.heap.size C C L m hrow3 HLL.out hC7 m8 (Nat.le_refl _) (by omega) HRG.out q HQ.out)
            have c1 := p1.cell
            have PP1 := Lib.hid p1
            have PP2 := Lib.hid p2
            have HJ3 := Lib.hid hJ3
            have hsz3 : W.heap.size < W3.heap.size := by omega
            clear hJ3 hk3 hb3 k1' k2' hbw p1 p2 hrow3 HR
            gi_wp2
            refine ⟨trivial, ?_⟩
            refine (callsIn_wide.2 HT.out).mono ?_
            rintro e W4 ⟨rfl, hr4, hg4⟩
            have hs4 := hg4.size
            have HR4 := Lib.hid hr4
            have HG4 := Lib.hid hg4
            clear hr4 hg4 c1 HT
            gi_wp2
            go_roundw
            case rel =>
              refine ⟨p + 1, pre ++ [v], by rw [List.length_append, HPL.out]; rfl, by omega, by rw [HQS.out], HJ.out _ _ _ HJ3.out HG4.out, fun h => ?_, (HG4.out.block B1 (by omega) (fun e => by have := Option.some.inj e; omega)).trans PP1.out, (HG4.out.block B2 (by omega) (fun e => by have := Option.some.inj e; omega)).trans PP2.out, by omega⟩
              rw [← HQN.out h]
              exact HR4.out
            case measure =>
              have hrk := ranked_in k1 km m8
              have hg0 := wayAt_get k1 km m8 hlt
              have ht := ranked_top hrk hg0
              rw [HL.out] at ht hg0
              have e0 := row_read HRW.out HLL.out
              show leftW W.heap.size C (.bool q.isSome) W4 < leftW W.heap.size C (.bool true) wr
              have e1 : leftW W.heap.size C (.bool true) wr = 5000001 - rankW L := by unfold leftW; rw [e0]
              rw [e1]
              by_cases hn1 : p + 1 < (ways m k).length
              · have hg1 := wayAt_get k1 km m8 hn1
                have hst := ranked_step hrk hg0 hg1
                have ht1 := ranked_top hrk hg1
                have hr4 := HR4.out
                rw [HQN.out hn1] at hr4
                have hl1 : (wayAt m k (p + 1)).length = C := by rw [(HW8.out.len _ _ hg1).1, HC.out]
                have e2 := row_read hr4 hl1
                have e3 : leftW W.heap.size C (.bool true) W4 = 5000001 - rankW (wayAt m k (p + 1)) := by unfold leftW; rw [e2]
                rw [HQS.out, decide_eq_true hn1, e3]
                omega
              · have e3 : leftW W.heap.size C (.bool false) W4 = 0 := rfl
                rw [HQS.out, decide_eq_false hn1, e3]
                omega
          · rw [decide_eq_false hlt]
            have HJP := Lib.hid hJp
            clear hJp hrp b1 b2
            gi_wp2
            go_end0
            exact ⟨⟨_, rfl⟩, pre, by rw [HNW.out]; omega, HJP.out⟩
end Go.Proofs.Ytkmcfbopilieeaa

end

/-! YtkmcfbopilieeaaCutA -/
section

namespace Go.Proofs.Ytkmcfbopilieeaa
open Go.RowKit Go.Shelf
set_option linter.unusedVariables false
attribute [local go_sem] Oper.semAt_some

theorem wpListIn_append_at {F : Fence} {n : Nat} {P : Program} (w : World) {ops : Array Oper} {rest : List Oper} {o : Oper} {a : Act} {Q : Exit → Act → World → Prop}
    (hg : o.guard = none) (s x : Operand) (t : TypeId) (hop : o.op = Op.call { callee := Callee.builtin Builtin.append, args := #[s, x], argTypes := #[t, t] })
    (base : Nat) (e : TypeId) (i : TypeInfo) (z : Value) (size bytes : Nat) (h1 : P.underlying t = some (.slice e)) (h2 : P.info? e = some i) (h3 : i.zero = some z) (h4 : i.size = size) (h5 : i.bytes = bytes) (h6 : z.cells.size = size) (h7 : 0 < size)
    (v : Value) (k : Nat) (xs : List Value) (hs : a.eval s = v) (hown : w.ownsRow base e size v k xs) (ad : Addr) (m c : Nat) (news : List Value) (hx : a.eval x = .slice (some ad) m c) (hn : news.length = m * size)
    (hc : ∀ j u, news[j]? = some u → w.cell? (ad.add j) = some u) (h1c : ∀ u ∈ news, u.oneCell' = true) (hm : 0 < m) (b1 : k + m ≤ maxLen) (b2 : (k + m) * bytes ≤ 140737488355328) (b3 : base ≤ w.heap.size) (H : Nat) (hH : w.heap.size = H)
    (hK : ∀ g cap w', w'.ownsRow base e size (.slice (some ⟨g, 0, none⟩) (k + m) cap) (k + m) (xs ++ news) → w.grownBy w' v.ownBlock → (v.ownBlock = some g ∨ g = H) → g < w'.heap.size → wpListIn F n P ops Q rest (a.put o.dst (.slice (some ⟨g, 0, none⟩) (k + m) cap)) w') :
    wpListIn F n P ops Q (o :: rest) a w := by
  refine wpListIn_plain hg fun K hK' => ?_
  obtain ⟨g, cap, w', hrun, r1, r2, r3, r4⟩ := run_append_lies (P := P) w t o.type base e i z size bytes h1 h2 h3 h4 h5 h6 h7 v k xs hown ad m c news hn hc h1c hm b1 b2 b3 H hH
  unfold Oper.wpIn
  refine ⟨?_, ?_⟩
  · simp [Oper.about, hop, resolve, Target.leads, Sem.run_pure]
  · rw [Oper.semAt_plain F _ _ (by rw [hop]; intro c hc'; cases hc')]
    simp [execOp, hop, resolve, invoke, builtin, hs, hx, hrun, Result.andThen]
    exact hK' _ _ (hK g cap w' r1 r2 r3 r4)
theorem ListL.same {α : Type} {S : Owned α} {T : TypeId} {lo hi : Nat} {w w' : World} {v : Value} {xs : List α} (h : ListL S T lo hi w v xs) (hb : ∀ k, lo ≤ k → k < hi → w'.heap[k]? = w.heap[k]?) (ht : hi ≤ w'.heap.size) : ListL S T lo hi w' v xs := by
  obtain ⟨us, G, h1, h2, h3, h4, h5⟩ := h.all
  refine ⟨ht, us, G, ⟨h1.1, h1.2.imp id ?_⟩, h2, fun j x hx => ?_, h4, h5⟩
  · rintro ⟨k, cap, cur, rfl, e1, e2, e3⟩
    exact ⟨k, cap, cur, rfl, e1, (hb k e1 (h2 k rfl)).trans e2, e3⟩
  · obtain ⟨es, q1, q2⟩ := h3 j x hx
    refine ⟨es, q1, S.owns_keep q2 fun b o f => ?_⟩
    have h6 := h4 j b o f
    have h7 := hb b h6.1 h6.2.1
    exact ⟨World.cell?_of_block (a := ⟨b, o, none⟩) h7, World.frozen?_of_block (a := ⟨b, o, none⟩) h7⟩
theorem infoRow8 : (Try.prog.info? 38).map (fun i => (i.zero, i.size, i.bytes)) = some (some (.agg #[.slice none 0 0]), 1, 24) := by kernel_rfl
/-- waysToCut: the two numbers lie in cells of their own, which the iterator captures. -/
theorem waysToCut_in (n : Nat) (ops stages : Int) (w : World) :
    CallsIn Fence.wide n Try.prog 46 #[.int .i64 ops, .int .i64 stages] w fun e w' =>
      e = .returned (.func (.func 63) #[] #[.pointer (some ⟨w.heap.size, 0, none⟩), .pointer (some ⟨w.heap.size + 1, 0, none⟩)]) ∧
      w' = (w.alloc (.cells #[.int .i64 ops] 3 (0, 0))).alloc (.cells #[.int .i64 stages] 3 (0, 0)) := by
  refine callsIn_of_wp Try.func46 rfl trivial ?_ rfl
  simp only [Try.ntmps46, List.size_toArray, List.length_cons, List.length_nil, Nat.reduceAdd, Nat.reduceSub, Array.replicate_succ, Array.replicate_zero, List.push_toArray, List.append_toArray, List.nil_append, List.cons_append]
  gi_wp2
  go_ret
  exact ⟨by simp, rfl⟩
/-- What has come when so many have. -/
def rowsTo (ops stages : Int) (k : Nat) : List (List Int) := (List.range k).map (wayAt ops stages)
theorem rowsTo_length (ops stages : Int) (k : Nat) : (rowsTo ops stages k).length = k := by simp [rowsTo]
theorem rowsTo_succ (ops stages : Int) (k : Nat) : rowsTo ops stages (k + 1) = rowsTo ops stages k ++ [wayAt ops stages k] := by
  unfold rowsTo
  rw [List.range_succ, List.map_append]
  rfl
theorem rowsTo_all (ops stages : Int) : rowsTo ops stages (waysI ops stages).length = waysI ops stages := by
  refine List.ext_getElem (rowsTo_length _ _ _) fun j h1 h2 => ?_
  simp only [rowsTo, wayAt, List.getElem_map, List.getElem_range]
  rw [List.getD_eq_getElem?_getD, List.getElem?_eq_getElem h2]
  rfl
theorem waysI_few (ops stages : Int) : (waysI ops stages).length ≤ 35 ∧ ∀ l ∈ waysI ops stages, l.length ≤ 7 := by
  unfold waysI
  split
  · rename_i h
    have hw := ways_at (n := ops.toNat) (k := stages.toNat) (by omega) (by omega) (by omega)
    refine ⟨hw.few, fun l hl => ?_⟩
    obtain ⟨j, hj⟩ := List.getElem?_of_mem hl
    have := (hw.len j l hj).1
    omega
  · exact ⟨by simp, fun l hl => by cases hl⟩
/-- What lies between two rounds of AllCuts. -/
def AllInv (w : World) (lo : Nat) (ops stages : Int) (pre : List Value) (W : World) : Prop :=
  (∃ v hi, Boxed W w.heap.size 34 v ∧ ListL ownRow 38 lo hi W v (rowsTo ops stages pre.length)) ∧ Below w.heap.size w W ∧ Boxed W (w.heap.size + 1) 3 (.int .i64 ops) ∧ Boxed W (w.heap.size + 1 + 1) 3 (.int .i64 stages)
theorem allInv_own {w : World} {ops stages : Int} {S : Nat} (hS : w.heap.size + 3 ≤ S) : ∀ pre A B row, AllInv w (S + 3) ops stages pre A → A.grownBy B row → (∀ r, row = some r → S ≤ r ∧ r < S + 3) → AllInv w (S + 3) ops stages pre B := by
  rintro pre A B row ⟨⟨v, hi, h1, h2⟩, h3, h4, h5⟩ hg hr
  have hne : ∀ b, b < S → some b ≠ row := fun b hb e => by have := hr b e.symm; omega
  refine ⟨⟨v, hi, (hg.block _ h1.lt (hne _ (by omega))).trans h1, h2.same (fun k hk1 hk2 => hg.block k (Nat.lt_of_lt_of_le hk2 h2.top) fun e => by have := hr k e.symm; omega) (Nat.le_trans h2.top hg.size)⟩, ?_, (hg.block _ h4.lt (hne _ (by omega))).trans h4, (hg.block _ h5.lt (hne _ (by omega))).trans h5⟩
  exact ⟨hg.os.trans h3.os, hg.tape.trans h3.tape, hg.output.trans h3.output, Nat.le_trans h3.size hg.size, fun b hb => (hg.block b (Nat.lt_of_lt_of_le hb h3.size) (hne b (by omega))).trans (h3.block b hb)⟩
set_option maxRecDepth 100000 in
set_option maxHeartbeats 3000000 in
theorem implAllCuts_o (w : World) (ops stages : Int) :
    Calls Try.prog 17 #[.int .i64 ops, .int .i64 stages] w fun e w' => ∃ v, e = .returned v ∧ ListL ownRow 38 w.heap.size w'.heap.size w' v (waysI ops stages) ∧ Below w.heap.size w w' := by
  obtain ⟨j0, hj, hy0, hy1, hy2⟩ := info_parts infoRow8
  refine (callsIn_wide (n := 6)).1 ?_
  refine callsIn_of_wp_marks Try.func17 rfl trivial ?_ rfl
  simp only [Try.ntmps17, List.size_toArray, List.length_cons, List.length_nil, Nat.reduceAdd, Nat.reduceSub, Array.replicate_succ, Array.replicate_zero, List.push_toArray, List.append_toArray, List.nil_append, List.cons_append]
  have hA := (Below.refl w.heap.size w).alloc (Nat.le_refl _) (.cells #[.slice none 0 0] 34 (0, 0))
  have hb0 := Boxed.new w 34 (.slice none 0 0)
  have hs1 : (w.alloc (.cells #[.slice none 0 0] 34 (0, 0))).heap.size = w.heap.size + 1 := by simp
  gi_wp2
  generalize w.alloc (.cells #[.slice none 0 0] 34 (0, 0)) = wa at hA hb0 hs1 ⊢
  refine ⟨trivial, ?_⟩
  refine (waysToCut_in _ _ _ _).mono ?_
  rintro e w' ⟨rfl, rfl⟩
  have hB := ((Below.refl wa.heap.size wa).alloc (Nat.le_refl _) (.cells #[.int .i64 ops] 3 (0, 0))).alloc (by simp) (.cells #[.int .i64 stages] 3 (0, 0))
  have hb1 : Boxed ((wa.alloc (.cells #[.int .i64 ops] 3 (0, 0))).alloc (.cells #[.int .i64 stages] 3 (0, 0))) (w.heap.size + 1) 3 (.int .i64 ops) := by
    have := (Boxed.new wa 3 (.int .i64 ops)).alloc (.cells #[.int .i64 stages] 3 (0, 0))
    rw [hs1] at this
    exact this
  have hb2 : Boxed ((wa.alloc (.cells #[.int .i64 ops] 3 (0, 0))).alloc (.cells #[.int .i64 stages] 3 (0, 0))) (w.heap.size + 1 + 1) 3 (.int .i64 stages) := by
    have := Boxed.new (wa.alloc (.cells #[.int .i64 ops] 3 (0, 0))) 3 (.int .i64 stages)
    rw [World.size_alloc, hs1] at this
    exact this
  have hs3 : ((wa.alloc (.cells #[.int .i64 ops] 3 (0, 0))).alloc (.cells #[.int .i64 stages] 3 (0, 0))).heap.size = w.heap.size + 3 := by simp; omega
  have hb3 := (hb0.alloc (.cells #[.int .i64 ops] 3 (0, 0))).alloc (.cells #[.int .i64 stages] 3 (0, 0))
  have hA3 := hA.trans (hB.mono (by omega))
  clear hA hb0 hB
  gi_wp2
  generalize (wa.alloc (.cells #[.int .i64 ops] 3 (0, 0))).alloc (.cells #[.int .i64 stages] 3 (0, 0)) = W0 at hb1 hb2 hb3 hs3 hA3 ⊢
  have hI0 : AllInv w (W0.heap.size + 3) ops stages [] W0 := ⟨⟨_, W0.heap.size, hb3, ListL.nil _ _ (Nat.le_refl _)⟩, hA3, hb1, hb2⟩
  refine wpIn_rowsIter rfl (by omega) (gf := 63) (lb := #[.pointer (some ⟨w.heap.size + 1, 0, none⟩), .pointer (some ⟨w.heap.size + 1 + 1, 0, none⟩)]) rfl trivial (enters_of Try.func63 (by kernel_rfl) rfl)
    (Kp := KeepB w.heap.size (w.heap.size + 1) (w.heap.size + 1 + 1))
    (ways1_given _ (by omega) (w.heap.size + 1) (w.heap.size + 1 + 1) ops stages (KeepB w.heap.size (w.heap.size + 1) (w.heap.size + 1 + 1)) (fun X Y h => h.2) W0 _ _ hb1 hb2 _)
    keepB_t (keepB_b (by omega) (by omega) (by omega)) (Below.refl _ _) rfl
    (AllInv w (W0.heap.size + 3) ops stages) (allInv_own (by omega)) hI0 ?a1 ?assign ?body ?done
  case assign =>
    intro l x W K hK
    gi_wp2
    exact hK
  case body =>
    rintro l pre v U0 U1 ⟨⟨u, hi, h1, h2⟩, h3, h4, h5⟩ hsU hB hrow hlen
    obtain ⟨k, hk⟩ : ∃ k, pre.length = k := ⟨_, rfl⟩
    rw [hk] at h2 hrow hlen
    have hsB := hB.size
    have hli := (h2.below hB h2.top).wide (hi' := U0.heap.size) (Nat.le_refl _) h2.top hsB
    have hbx : Boxed U1 w.heap.size 34 u := (hB.block _ h1.lt).trans h1
    have hp1 : Boxed U1 (w.heap.size + 1) 3 (.int .i64 ops) := (hB.block _ h4.lt).trans h4
    have hp2 : Boxed U1 (w.heap.size + 1 + 1) 3 (.int .i64 stages) := (hB.block _ h5.lt).trans h5
    have hw1 : Below w.heap.size w U1 := h3.trans (hB.mono (by omega))
    obtain ⟨x, hx⟩ : ∃ x, wayAt ops stages k = x := ⟨_, rfl⟩
    rw [hx] at hrow
    obtain ⟨ar, cr, rfl, -⟩ := hrow.form
    obtain ⟨nr, hnr⟩ : ∃ nr, x.length = nr := ⟨_, rfl⟩
    rw [hnr] at hrow ⊢
    obtain ⟨au, cu, rfl, -, -⟩ := hli.form
    have hrl := rowsTo_length ops stages k
    have hnx : rowsTo ops stages (pre ++ [Value.slice ar nr cr]).length = rowsTo ops stages k ++ [x] := by
      rw [List.length_append, hk]
      show rowsTo ops stages (k + 1) = _
      rw [rowsTo_succ, hx]
    obtain ⟨xs, hxs⟩ : ∃ xs, rowsTo ops stages k = xs := ⟨_, rfl⟩
    rw [hxs] at hrl hli hbx hnx
    obtain ⟨us, G, g1, g2, g3, g4, g5⟩ := hli.all
    have hk35 := (waysI_few ops stages).1
    rw [hrl] at hbx
    have g1' : U1.ownsRow (W0.heap.size + 3) 38 1 (.slice au k cu) k us := by
      have g1k := g1
      rw [hrl] at g1k
      exact g1k
    have hP : Hid (∀ (w4 : World) (g cap : Nat), w4.ownsRow (W0.heap.size + 3) 38 1 (.slice (some ⟨g, 0, none⟩) (k + 1) cap) (k + 1) (us ++ [.slice ar nr cr]) → (U1.alloc (.cells #[.slice ar nr cr] 38 (0, 0))).grownBy w4 (Value.slice au k cu).ownBlock →
        ((Value.slice au k cu).ownBlock = some g ∨ g = (U1.alloc (.cells #[.slice ar nr cr] 38 (0, 0))).heap.size) →
        ListL ownRow 38 (W0.heap.size + 3) w4.heap.size w4 (.slice (some ⟨g, 0, none⟩) (k + 1) cap) (xs ++ [x]) ∧ Below (W0.heap.size + 3) U1 w4) := Lib.hid fun w4 g cap ho hgr hat => by
      have hown := hrow.ownRow
      exact ListL.put (S := ownRow) (T := 38) (lo := W0.heap.size + 3) (hi := U0.heap.size) (w := U1) (w' := w4) (v := .slice au xs.length cu) (v' := .slice (some ⟨g, 0, none⟩) (k + 1) cap) (xs := xs) (o := (.cells #[.slice ar nr cr] 38 (0, 0))) (x := x) (F := FromB U0.heap.size U1.heap.size)
        hsU g1 g2 hsB g3 g4 g5 hown (fun b o f => f) rfl (by rw [hrl]; exact ho) (by rw [hrl]; exact hgr) (by
          rcases hat with e | e
          · exact .inl (by rw [hrl]; exact e.symm)
          · exact .inr (congrArg some e))
    have hcells : Hid (∀ j o, (Value.slice au k cu).ownBlock = some j → U1.heap[j]? = some o → o.isCells = true) := Lib.hid fun j o e ho => by
      rcases g1'.2 with ⟨e1, -⟩ | ⟨g', cap', cur, e1, -, e3, -⟩
      · rw [e1] at e
        cases e
      · rw [e1] at e
        have e4 : g' = j := Option.some.inj e
        subst e4
        rw [e3] at ho
        cases ho
        rfl
    have HNX := Lib.hid hnx
    have HW1 := Lib.hid hw1
    have HP1 := Lib.hid hp1
    have HP2 := Lib.hid hp2
    have HBX := Lib.hid hbx
    have HG1 := Lib.hid g1'
    have HLO := Lib.hid (fun j (e : (Value.slice au k cu).ownBlock = some j) => World.ownsRow.lt g1' j e)
    have cx := hbx.cell
    have hlen' : k < 35 := by omega
    have hsU1 : W0.heap.size + 3 ≤ U1.heap.size := by omega
    have hsA : (U1.alloc (.cells #[.slice ar nr cr] 38 (0, 0))).heap.size = U1.heap.size + 1 := by simp
    have HSA := Lib.hid hsA
    have HXL := Lib.hid hrl
    clear h1 h2 h3 h4 h5 hB hrow hli hbx hp1 hp2 hw1 g1 g1' g2 g3 g4 g5 hnx hx hnr hxs hk hrl hsA hlen hk35
    gi_wp2_with (gi_at_builtin; refine wpListIn_append_at _ rfl _ _ 34 rfl (W0.heap.size + 3) 38 j0 (.agg #[.slice none 0 0]) 1 24 Try.underlying34 hj hy0 hy1 hy2 rfl (by decide) _ _ _ rfl (HG1.out.alloc _) ⟨U1.heap.size, 0, none⟩ 1 1 [.slice ar nr cr] rfl rfl (cell_one_new _ _ _) (slices_one _ _ _) (by decide) (by unfold maxLen; omega) (by omega) (by rw [HSA.out]; omega) _ rfl ?_; intro g4 cap4 w4 ho4 hg4 hat4 hlt4; obtain ⟨hl4, hb4⟩ := hP.out w4 g4 cap4 ho4 hg4 hat4; have hbx4 : Boxed w4 w.heap.size 34 (.slice au k cu) := (hb4.block _ (by omega)).trans HBX.out; have c4 := hbx4.cell; have f4 := hbx4.frozen; have HL4 := Lib.hid hl4; have HB4 := Lib.hid hb4; have HX4 := Lib.hid hbx4; have HGR4 := Lib.hid hg4; clear ho4 hg4 hat4 hl4 hb4 hbx4)
    have hs4 := HB4.out.size
    have hgr := HGR4.out
    have hne : ∀ b, b < W0.heap.size + 3 → b ≠ w.heap.size → (w4.setCell ⟨w.heap.size, 0, none⟩ (.slice (some ⟨g4, 0, none⟩) (k + 1) cap4)).heap[b]? = U1.heap[b]? := fun b hb h0 => (Below.heap_setCell _ _ _ _ h0).trans (HB4.out.block b hb)
    refine ⟨?_, hne _ (by omega) (by omega), ⟨?_, hne _ (by omega) (by omega), hne _ (by omega) (by omega)⟩, ⟨⟨_, w4.heap.size, HX4.out.set _, ?_⟩, ?_, (hne _ (by omega) (by omega)).trans HP1.out, (hne _ (by omega) (by omega)).trans HP2.out⟩⟩
    · refine (((KeepsOthers.alloc U1 _).trans (KeepsOthers.of_grownBy hgr fun j o ej hj => ?_)).trans (KeepsOthers.setCell _ _ _)).from _
      have hlt := (HLO.out j ej).2
      rw [Below.heap_alloc _ _ _ hlt] at hj
      exact hcells.out j o ej hj
    · exact (HB4.out.mono (show w.heap.size ≤ W0.heap.size + 3 by omega)).setCell (p := ⟨w.heap.size, 0, none⟩) (Nat.le_refl _) _
    · rw [HNX.out]
      have := HL4.out.stored w.heap.size 0 (.slice (some ⟨g4, 0, none⟩) (k + 1) cap4) (by omega)
      exact this
    · exact (HW1.out.trans (HB4.out.mono (show w.heap.size ≤ W0.heap.size + 3 by omega))).setCell (p := ⟨w.heap.size, 0, none⟩) (Nat.le_refl _) _
  case done =>
    rintro xs W hx ⟨⟨u, hi, h1, h2⟩, h3, h4, h5⟩ hK
    rw [hx, rowsTo_all] at h2
    have cx := h1.cell
    have HK := Lib.hid hK
    have H2 := Lib.hid h2
    have H3 := Lib.hid h3
    clear h1 h2 h3 h4 h5
    gi_wp2
    refine marks_ret1 rfl HK.out (results_tmp rfl _ _ _) ⟨u, rfl, ?_, below_put H3.out (by omega) HK.out _⟩
    have hsp : (W.putObj W0.heap.size (.deferred none)).heap.size = W.heap.size := by simp
    exact (H2.out.same (w' := W.putObj W0.heap.size (.deferred none)) (fun b hb1 hb2 => World.putObj_heap_other (by omega)) (by rw [hsp]; exact H2.out.top)).wide (by omega) (by rw [hsp]; exact H2.out.top) (Nat.le_refl _)
end Go.Proofs.Ytkmcfbopilieeaa

end

/-! YtkmcfbopilieeaaAllCuts -/
section

namespace Go.Proofs.Ytkmcfbopilieeaa
open Go.RowKit Go.Sort
set_option linter.unusedVariables false

/-- How many ways there are, as the law counts them. -/
def wantTo (n : Nat) : Nat → Int
  | 0 => 1
  | j + 1 => (wantTo n j * ((n : Int) - ((j : Int) + 1))).tdiv ((j : Int) + 1)
def wantB (n k : Nat) : Bool := decide (((ways n k).length : Int) = wantTo n (k - 1)) && (List.range k).all fun j => decide (0 ≤ wantTo n j) && decide (wantTo n j ≤ 1000)
theorem wants_checked : ((List.range 9).all fun n => (List.range 9).all fun k => !(decide (1 ≤ k) && decide (k ≤ n)) || wantB n k) = true := by decide +kernel
theorem want_at {n k : Nat} (hk : 1 ≤ k) (hn : k ≤ n) (h8 : n ≤ 8) : ((ways n k).length : Int) = wantTo n (k - 1) ∧ ∀ j, j < k → 0 ≤ wantTo n j ∧ wantTo n j ≤ 1000 := by
  have h := List.all_eq_true.1 (List.all_eq_true.1 wants_checked n (List.mem_range.2 (by omega))) k (List.mem_range.2 (by omega))
  simp only [Bool.or_eq_true, Bool.not_eq_true', Bool.and_eq_false_imp, decide_eq_true_eq, decide_eq_false_iff_not] at h
  rcases h with h | h
  · exact absurd hn (h hk)
  · unfold wantB at h
    simp only [Bool.and_eq_true, decide_eq_true_eq, List.all_eq_true] at h
    exact ⟨h.1, fun j hj => h.2 j (List.mem_range.2 hj)⟩
/-- A way's numbers rise, within the operations. -/
theorem way_in {n : Nat} {l : List Int} (hc : cutsB n l = true) (j : Nat) (hj : j < l.length) : 1 ≤ l.getD j 0 ∧ l.getD j 0 < (n : Int) ∧ (∀ i, j = i + 1 → l.getD i 0 < l.getD j 0) := by
  have h1 := cutAt_has (cutsB_has hc j hj)
  have h2 := cuts_rise (fun i hi => cutsB_has hc i hi) j (Nat.le_of_lt hj)
  refine ⟨by omega, h1.2, fun i hi => ?_⟩
  rw [← prevC_pos hi]
  exact h1.1
/-- Two ways, one behind the other: where they part. -/
theorem ways_part {n k : Nat} (hk : 1 ≤ k) (hn : k ≤ n) (h8 : n ≤ 8) {p : Nat} {u v : List Int} (hu : (ways n k)[p]? = some u) (hv : (ways n k)[p + 1]? = some v) :
    ∃ i, i < k - 1 ∧ (∀ j, j < i → v.getD j 0 = u.getD j 0) ∧ v.getD i 0 = u.getD i 0 + 1 := by
  have hw := ways_at hk hn h8
  obtain ⟨i, h1, -, -, rfl⟩ := hw.step p u v hu hv
  have hl := (hw.len p u hu).1
  refine ⟨i, h1, fun j hj => ?_, ?_⟩
  · unfold nextAt
    rw [mapK_get _ _ _ (by omega), if_pos hj]
  · unfold nextAt
    rw [mapK_get _ _ _ (by omega), if_neg (by omega)]
    simp

theorem ownRow_reads8 {F : Foot} {w : World} {es : List Value} {x : List Int} {B : Nat} (h : ownRow.owns F w es x) (hF : ∀ b o, F b o → b < B) (hb : x.length ≤ 1048576) : ∃ a n c, es = [.slice a n c] ∧ IntsIn B w a n x := by
  obtain ⟨a, n, c, rfl, -, -, hl⟩ := h
  refine ⟨a, n, c, rfl, ?_⟩
  have := (hl.listAt (I := Under B) (fun b o f => hF b o f) (by decide)).ints (by have := hl.1; omega)
  exact this
theorem ListL.at8 {T : TypeId} {lo hi : Nat} {w : World} {a : Option Addr} {n c : Nat} {xs : List dRow} (h : ListL ownRow T lo hi w (.slice a n c) xs) (j : Nat) (x : dRow) (hx : xs[j]? = some x) (hb : x.length ≤ 1048576) :
    ∃ g ax nx cx, a = some ⟨g, 0, none⟩ ∧ j < n ∧ lo ≤ g ∧ g < hi ∧ w.cell? ⟨g, j, none⟩ = some (.slice ax nx cx) ∧ IntsIn hi w ax nx x := by
  obtain ⟨us, G, h1, h2, h3, h4, h5⟩ := h.all
  have hj := (List.getElem?_eq_some_iff.1 hx).1
  obtain ⟨es, q1, q2⟩ := h3 j x hx
  obtain ⟨ax, nx, cx, rfl, hi'⟩ := ownRow_reads8 q2 (fun b o f => (h4 j b o f).2.1) hb
  have h1' := h1
  rcases h1.2 with ⟨e, hn⟩ | ⟨g, cap, cur, e, e1, e2, e3, e4, -⟩
  · omega
  · cases e
    refine ⟨g, ax, nx, cx, rfl, hj, e1, h2 g rfl, ?_, hi'⟩
    rw [World.ownsRow.cellAt h1' j (by show j < xs.length * 1; omega)]
    have := q1 0 _ rfl
    simpa [ownRow_size] using this

/-- Two numbers, drawn. -/
theorem drawAllCuts_e (w : World) (a : Option Addr) (cap : Nat) (bs : List UInt8) (hc : CodeIn w.heap.size w a bs) :
    Calls Try.prog 21 #[.slice a bs.length cap] w fun e w' => ∃ n k : Int, e = .returned (.tuple #[.int .i64 n, .int .i64 k]) ∧ (0 ≤ n ∧ n < 10 ∧ 0 ≤ k ∧ k < 6) ∧ Below w.heap.size w w' := by
  have HC := Lib.hid hc
  clear hc
  go_enter Try.func21, Try.ntmps21
  go_wp2_with fail
  refine (l1New_e _ a cap bs HC.out).mono ?_
  rintro e w1 ⟨rfl, hcu, hg1⟩
  have hlt := hcu.lt
  have HT1 := Lib.hid ((Below.refl w.heap.size w).grown hg1 (Nat.le_refl _) (fun k h => by cases h))
  go_wp2_with fail
  refine (l1Below_e _ _ _ 10 (by omega) hcu).mono ?_
  rintro e w2 ⟨x, rfl, ⟨x0, x1⟩, ht2⟩
  have HT2 := Lib.hid (HT1.out.trans (ht2.below HT1.out.size (Nat.le_refl _)))
  have hcu2 := ht2.cu
  clear hcu hg1 ht2
  go_wp2_with fail
  refine (l1Below_e _ _ _ 6 (by omega) hcu2).mono ?_
  rintro e w3 ⟨y, rfl, ⟨y0, y1⟩, ht3⟩
  have HT3 := Lib.hid (HT2.out.trans (ht3.below HT2.out.size (Nat.le_refl _)))
  clear hcu2 ht3
  go_wp2_with fail
  go_ret2
  exact ⟨x, y, rfl, ⟨x0, x1, y0, y1⟩, HT3.out⟩

set_option maxRecDepth 100000 in
set_option maxHeartbeats 6400000 in
theorem lawAllCuts_small (w : World) (p : Option Addr) (cap : Nat) (bs : List UInt8) (hc : CodeIn w.heap.size w p bs) :
    Calls Try.prog 4 #[.slice p bs.length cap] w fun e w' => e = .returned (.bool true) ∧ Below w.heap.size w w' := by
  have HC0 := Lib.hid hc
  clear hc
  go_enter Try.func4, Try.ntmps4
  go_wp2_with fail
  refine (big_no p cap bs HC0.out.room _).mono ?_
  rintro e w' ⟨rfl, rfl⟩
  go_wp2_with fail
  refine (drawAllCuts_e _ p cap bs HC0.out).mono ?_
  rintro e w1 ⟨n, k, rfl, ⟨n0, n1, k0, k1⟩, hb⟩
  have T1 := Lib.hid hb
  clear hb HC0
  go_wp2_with fail
  refine (implAllCuts_o w1 n k).mono ?_
  rintro e w2 ⟨v, rfl, hl, hb⟩
  have T2 := Lib.hid (T1.out.trans (hb.mono T1.out.size))
  obtain ⟨av, cv, rfl, -, -, -⟩ := hl.list (by decide)
  obtain ⟨N, hN⟩ : ∃ N, (waysI n k).length = N := ⟨_, rfl⟩
  rw [hN] at hl ⊢
  have HL := Lib.hid hl
  have HN := Lib.hid hN
  clear hl hb hN T1
  by_cases hok : 1 ≤ k ∧ k ≤ n ∧ n ≤ 8
  · obtain ⟨a, rfl⟩ : ∃ a : Nat, n = a := ⟨n.toNat, by omega⟩
    obtain ⟨s, rfl⟩ : ∃ s : Nat, k = s := ⟨k.toNat, by omega⟩
    have s1 : 1 ≤ s := by omega
    have sa : s ≤ a := by omega
    have a8 : a ≤ 8 := by omega
    have hwy := waysI_yes s1 sa a8
    have HW := Lib.hid (ways_at s1 sa a8)
    have HP := Lib.hid fun p u v => ways_part (p := p) (u := u) (v := v) s1 sa a8
    have hwa := want_at s1 sa a8
    rw [hwy] at HL HN
    rw [HN.out] at hwa
    have HWA := Lib.hid hwa
    have hfew := HW.out.few
    rw [HN.out] at hfew
    have d1 : decide ((a : Int) < 1) = false := decide_eq_false (by omega)
    have d2 : decide ((a : Int) > 8) = false := decide_eq_false (by omega)
    have d3 : decide ((s : Int) < 1) = false := decide_eq_false (by omega)
    have d4 : decide ((s : Int) > (a : Int)) = false := decide_eq_false (by omega)
    clear hwy hwa hok n0 n1 k0 k1
    go_wp2_with fail
    go_loop [6, 7] (fun t i => ∃ j : Nat, j + 1 ≤ s ∧ i = .int .i64 ((j + 1 : Nat) : Int) ∧ t = .int .i64 (wantTo a j)) (fun _ i => s - (intOf i).toNat)
    case atStart => exact ⟨0, s1, rfl, rfl⟩
    case round =>
      obtain ⟨j, hj, rfl, rfl⟩ := hrel
      obtain ⟨W, hW⟩ : ∃ W, wantTo a j = W := ⟨_, rfl⟩
      have hW0 := HWA.out.2 j (by omega)
      rw [hW] at hW0 ⊢
      by_cases hlt : j + 1 < s
      · have hlt' : decide (((j + 1 : Nat) : Int) < (s : Int)) = true := decide_eq_true (by omega)
        have hW1 := HWA.out.2 (j + 1) hlt
        obtain ⟨X, hX⟩ : ∃ X, wantTo a (j + 1) = X := ⟨_, rfl⟩
        have hX' : (W * ((a : Int) - ((j : Int) + 1))).tdiv ((j : Int) + 1) = X := by rw [← hX, ← hW]; rfl
        rw [hX] at hW1
        have HX := Lib.hid hX
        have HX' := Lib.hid hX'
        clear hX hX' hW
        have hm0 : 0 ≤ W * ((a : Int) - ((j : Int) + 1)) := Int.mul_nonneg hW0.1 (by omega)
        have hm1 : W * ((a : Int) - ((j : Int) + 1)) ≤ 1000 * 8 := Int.mul_le_mul hW0.2 (by omega) (by omega) (by omega)
        have e1 : wrap64 ((a : Int) - ((j + 1 : Nat) : Int)) = (a : Int) - ((j : Int) + 1) := by rw [IntWalk.wrap64_in _ (by omega)]; omega
        have e2 : wrap64 (W * ((a : Int) - ((j : Int) + 1))) = W * ((a : Int) - ((j : Int) + 1)) := IntWalk.wrap64_in _ (by omega)
        have e3 : wrap64 ((W * ((a : Int) - ((j : Int) + 1))).tdiv ((j : Int) + 1)) = X := by
          rw [HX'.out, IntWalk.wrap64_in _ (by omega)]
        clear hm0 hm1
        go_wp2_with fail
        go_round
        case rel => exact ⟨j + 1, by omega, by go_num, by rw [HX.out, e3]⟩
        case measure => simp [intOf]; omega
      · obtain rfl : s = j + 1 := by omega
        have hge : decide (((j + 1 : Nat) : Int) < ((j + 1 : Nat) : Int)) = false := decide_eq_false (by omega)
        obtain rfl : W = (N : Int) := by
          have := HWA.out.1
          simp only [Nat.add_sub_cancel] at this
          rw [this, hW]
        clear hW hW0
        go_wp2_with fail
        go_loopw [8] (fun i wr => ∃ q : Nat, q ≤ N ∧ i = .int .i64 q ∧ Below w2.heap.size w2 wr) (fun i _ => N - (intOf i).toNat)
        case atStart => exact ⟨0, Nat.zero_le _, rfl, Below.refl _ _⟩
        case round =>
          obtain ⟨q, hq, rfl, hbq⟩ := hrel
          have HBQ := Lib.hid hbq
          by_cases hqn : q < N
          · have hqd : decide ((q : Int) < (N : Int)) = true := decide_eq_true (by omega)
            obtain ⟨x, hx⟩ : ∃ x, (ways a (j + 1))[q]? = some x := ⟨_, List.getElem?_eq_getElem (by rw [HN.out]; exact hqn)⟩
            have hxl := HW.out.len q x hx
            rw [Nat.add_sub_cancel] at hxl
            obtain ⟨g, ax, nx, cx, rfl, -, -, hg, hce, hxi⟩ := HL.out.at8 q x hx (by omega)
            have hnx : nx = j := hxi.len.symm.trans hxl.1
            rw [hnx] at hce hxi
            clear hnx
            have hcr := (hbq.cell (p := ⟨g, q, none⟩) hg).trans hce
            have HXI := Lib.hid hxi
            have HX := Lib.hid hx
            have HXL := Lib.hid hxl
            have hl1 : wrap64 (((j + 1 : Nat) : Int) - 1) = (j : Int) := by rw [IntWalk.wrap64_in _ (by omega)]; omega
            have hjj : ((j : Int) != (j : Int)) = false := by simp
            clear hce hxi hx hxl hbq
            go_wp2_with fail
            go_loopw [10] (fun i wr => ∃ e : Nat, e ≤ j ∧ i = .int .i64 e ∧ Below w2.heap.size w2 wr) (fun i _ => j - (intOf i).toNat)
            case atStart => exact ⟨0, Nat.zero_le _, rfl, HBQ.out⟩
            case round =>
              obtain ⟨e, he, rfl, hbe⟩ := hrel
              by_cases hej : e < j
              · have hed : decide ((e : Int) < (j : Int)) = true := decide_eq_true (by omega)
                obtain ⟨V, hV⟩ : ∃ V, x.getD e 0 = V := ⟨_, rfl⟩
                have hv := way_in HXL.out.2 e (by rw [HXL.out.1]; exact hej)
                rw [hV] at hv
                obtain ⟨b, o, rfl, hbB, hc0⟩ := HXI.out.cells e hej
                rw [hV] at hc0
                have hv1 : decide (V < 1) = false := decide_eq_false (by omega)
                have hv2 : decide (V ≥ (a : Int)) = false := decide_eq_false (by omega)
                have kc := (hbe.cell (p := ⟨b, o + e, none⟩) hbB).trans hc0
                by_cases e0 : e = 0
                · have hgt : decide ((e : Int) > 0) = false := decide_eq_false (by omega)
                  have h0e : ¬ 0 < e := by omega
                  have h0f : decide (0 < e) = false := decide_eq_false h0e
                  have HBE := Lib.hid hbe
                  have HV := Lib.hid hv
                  clear hv hc0 hbe e0
                  go_wp2_with fail
                  go_quiet (fail)
                  have HBN : Hid (Below w2.heap.size w2 (wr.drewN nq)) := Lib.hid (HBE.out.trans ⟨rfl, rfl, rfl, Nat.le_refl _, fun _ _ => rfl⟩)
                  generalize wr.drewN nq = wn at HBN ⊢
                  clear kc
                  go_wp2_with fail
                  go_roundw
                  case rel => exact ⟨e + 1, by omega, by go_num, HBN.out⟩
                  case measure => simp [intOf]; omega
                · obtain ⟨f, hf⟩ : ∃ f, e = f + 1 := ⟨e - 1, by omega⟩
                  have hgt : decide ((e : Int) > 0) = true := decide_eq_true (by omega)
                  have h0e : 0 < e := by omega
                  have h0f : decide (0 < e) = true := decide_eq_true h0e
                  obtain ⟨b', o', eb, hbB', hc1⟩ := HXI.out.cells f (by omega)
                  cases eb
                  obtain ⟨U, hU⟩ : ∃ U, x.getD f 0 = U := ⟨_, rfl⟩
                  have hlu := hv.2.2 f hf
                  rw [hU] at hc1 hlu
                  have hvu : decide (V ≤ U) = false := decide_eq_false (by omega)
                  have kc' := (hbe.cell (p := ⟨b, o + f, none⟩) hbB').trans hc1
                  have hw1 : wrap64 ((e : Int) - 1) = (f : Int) := by rw [IntWalk.wrap64_in _ (by omega)]; omega
                  have hw2 : IntKind.i64.wrap ((e : Int) - 1) = (f : Int) := by rw [IntKind.wrap_i64]; omega
                  have hfj : f < j := by omega
                  have HBE := Lib.hid hbe
                  have HV := Lib.hid hv
                  have HF := Lib.hid hf
                  clear hv hc0 hc1 hbe e0 hf hlu
                  go_wp2_with fail
                  go_quiet (fail)
                  have HBN : Hid (Below w2.heap.size w2 (wr.drewN nq)) := Lib.hid (HBE.out.trans ⟨rfl, rfl, rfl, Nat.le_refl _, fun _ _ => rfl⟩)
                  generalize wr.drewN nq = wn at HBN ⊢
                  clear kc kc'
                  go_wp2_with fail
                  go_roundw
                  case rel => exact ⟨e + 1, by omega, by go_num, HBN.out⟩
                  case measure => simp [intOf]; omega
              · have hed : decide ((e : Int) < (j : Int)) = false := decide_eq_false (by omega)
                obtain ⟨wo, rfl⟩ : ∃ y, y = wr := ⟨_, rfl⟩
                have HBE := Lib.hid hbe
                clear hbe
                by_cases q0 : q = 0
                · have hq0 : ((q : Int) == 0) = true := by simp [q0]
                  go_wp2_with fail
                  go_roundw
                  case rel => exact ⟨q + 1, by omega, by go_num, HBE.out⟩
                  case measure => simp [intOf]; omega
                · have hq0 : ((q : Int) == 0) = false := by simp; omega
                  obtain ⟨f, rfl⟩ : ∃ f, q = f + 1 := ⟨q - 1, by omega⟩
                  obtain ⟨y, hy⟩ : ∃ y, (ways a (j + 1))[f]? = some y := ⟨_, List.getElem?_eq_getElem (by rw [HN.out]; omega)⟩
                  have hyl := HW.out.len f y hy
                  rw [Nat.add_sub_cancel] at hyl
                  obtain ⟨g', ay, ny, cy, eg, -, -, hg', hce', hyi⟩ := HL.out.at8 f y hy (by omega)
                  cases eg
                  have hny : ny = j := hyi.len.symm.trans hyl.1
                  rw [hny] at hce' hyi
                  clear hny
                  have HYI := Lib.hid hyi
                  obtain ⟨t, htj, hts, htt⟩ := HP.out f y x hy HX.out
                  rw [Nat.add_sub_cancel] at htj
                  have HTS := Lib.hid hts
                  have HTT := Lib.hid htt
                  have kc := (HBE.out.cell (p := ⟨g, f, none⟩) hg').trans hce'
                  have hw1 : wrap64 (((f + 1 : Nat) : Int) - 1) = (f : Int) := by rw [IntWalk.wrap64_in _ (by omega)]; omega
                  have hfN : f < N := by omega
                  clear hyi hy hts htt hce'
                  go_wp2_with fail
                  go_loopw [12] (fun i wr => ∃ d : Nat, d ≤ t ∧ i = .int .i64 d ∧ Below w2.heap.size w2 wr) (fun i _ => t - (intOf i).toNat)
                  case atStart => exact ⟨0, Nat.zero_le _, rfl, HBE.out⟩
                  case round =>
                    obtain ⟨d, hd, rfl, hbd⟩ := hrel
                    have hdj : d < j := by omega
                    have hdd : decide ((d : Int) < (j : Int)) = true := decide_eq_true (by omega)
                    obtain ⟨b, o, rfl, hbB, hc0⟩ := HXI.out.cells d hdj
                    obtain ⟨b', o', rfl, hbB', hc1⟩ := HYI.out.cells d hdj
                    obtain ⟨U, hU⟩ : ∃ U, y.getD d 0 = U := ⟨_, rfl⟩
                    obtain ⟨V, hV⟩ : ∃ V, x.getD d 0 = V := ⟨_, rfl⟩
                    rw [hV] at hc0
                    rw [hU] at hc1
                    have kx := (hbd.cell (p := ⟨b, o + d, none⟩) hbB).trans hc0
                    have ky := (hbd.cell (p := ⟨b', o' + d, none⟩) hbB').trans hc1
                    have HBD := Lib.hid hbd
                    clear hc0 hc1 hbd kc
                    by_cases hdt : d < t
                    · have hvu := HTS.out d hdt
                      rw [hV, hU] at hvu
                      subst hvu
                      have hee : (V == V) = true := by simp
                      have HU := Lib.hid hU
                      have HV := Lib.hid hV
                      clear hU hV
                      go_wp2_with fail
                      go_quiet (fail)
                      have HBN : Hid (Below w2.heap.size w2 (wr.drewN nq)) := Lib.hid (HBD.out.trans ⟨rfl, rfl, rfl, Nat.le_refl _, fun _ _ => rfl⟩)
                      generalize wr.drewN nq = wn at HBN ⊢
                      clear kx ky
                      go_wp2_with fail
                      go_roundw
                      case rel => exact ⟨d + 1, by omega, by go_num, HBN.out⟩
                      case measure => simp [intOf]; omega
                    · obtain rfl : d = t := by omega
                      have hvu := HTT.out
                      rw [hV, hU] at hvu
                      have hee : (U == V) = false := by simp; omega
                      have hne : ¬ U = V := by omega
                      have huv : decide (U > V) = false := decide_eq_false (by omega)
                      have hul : ¬ V < U := by omega
                      have hdl : ((d : Int) == (j : Int)) = false := by simp; omega
                      have hdn : ¬ d = j := by omega
                      have HU := Lib.hid hU
                      have HV := Lib.hid hV
                      have HVU := Lib.hid hvu
                      clear hU hV hvu
                      go_wp2_with fail
                      go_quiet (fail)
                      have HBN : Hid (Below w2.heap.size w2 (wr.drewN nq)) := Lib.hid (HBD.out.trans ⟨rfl, rfl, rfl, Nat.le_refl _, fun _ _ => rfl⟩)
                      have kx' : (wr.drewN nq).cell? ⟨b, o + d, none⟩ = some (.int .i64 V) := kx
                      have ky' : (wr.drewN nq).cell? ⟨b', o' + d, none⟩ = some (.int .i64 U) := ky
                      generalize wr.drewN nq = wn at HBN kx' ky' ⊢
                      clear kx ky
                      go_wp2_with fail
                      go_quiet (fail)
                      have HBM : Hid (Below w2.heap.size w2 (wn.drewN nq)) := Lib.hid (HBN.out.trans ⟨rfl, rfl, rfl, Nat.le_refl _, fun _ _ => rfl⟩)
                      generalize wn.drewN nq = wm at HBM ⊢
                      clear kx' ky'
                      go_wp2_with fail
                      go_roundw
                      case rel => exact ⟨f + 1 + 1, by omega, by go_num, HBM.out⟩
                      case measure => simp [intOf]; omega
          · obtain rfl : q = N := by omega
            have hqd : decide ((q : Int) < (q : Int)) = false := decide_eq_false (by omega)
            have hqq : ((q : Int) == (q : Int)) = true := by simp
            have T3 := Lib.hid (T2.out.trans (hbq.mono T2.out.size))
            clear hbq
            go_wp2_with fail
            go_ret
            exact ⟨rfl, T3.out⟩
  · have hn0 : N = 0 := by rw [← HN.out, waysI_no hok]; rfl
    subst hn0
    have hz : (((0 : Nat) : Int) == 0) = true := rfl
    by_cases c1 : n < 1
    · have d1 : decide (n < 1) = true := decide_eq_true c1
      go_wp2_with fail
      go_ret
      exact ⟨rfl, T2.out⟩
    · have d1 : decide (n < 1) = false := decide_eq_false c1
      by_cases c2 : n > 8
      · have d2 : decide (n > 8) = true := decide_eq_true c2
        go_wp2_with fail
        go_ret
        exact ⟨rfl, T2.out⟩
      · have d2 : decide (n > 8) = false := decide_eq_false c2
        by_cases c3 : k < 1
        · have d3 : decide (k < 1) = true := decide_eq_true c3
          go_wp2_with fail
          go_ret
          exact ⟨rfl, T2.out⟩
        · have d3 : decide (k < 1) = false := decide_eq_false c3
          have c4 : k > n := by omega
          have d4 : decide (k > n) = true := decide_eq_true c4
          go_wp2_with fail
          go_ret
          exact ⟨rfl, T2.out⟩
theorem lawAllCuts_big (w : World) (a : Option Addr) (len cap : Nat) (hm : len ≤ 9223372036854775807) (hbig : 1048576 < len) :
    Calls Try.prog 4 #[.slice a len cap] w fun e w' => e = .returned (.bool true) ∧ Below w.heap.size w w' := by
  go_enter Try.func4, Try.ntmps4
  go_wp2_with fail
  refine (big_yes a len cap hbig hm _).mono ?_
  rintro e w' ⟨rfl, rfl⟩
  go_wp2_with fail
  go_ret
  exact ⟨rfl, Below.refl _ _⟩
theorem lawAllWays (w : World) (a : Option Addr) (len cap : Nat) (hm : len ≤ 9223372036854775807)
    (hb : ∃ bs : List UInt8, bs.length = len ∧ ∀ j (hj : j < bs.length), ∃ b o, a = some ⟨b, o, none⟩ ∧ b < w.heap.size ∧ w.cell? ⟨b, o + j, none⟩ = some (.int .u8 (bs[j].toNat : Int))) :
    Calls Try.prog 4 #[.slice a len cap] w fun e w' => e = .returned (.bool true) ∧ Below w.heap.size w w' :=
  law_of _ w a len cap hm hb (lawAllCuts_big w a len cap hm) (fun bs hc => lawAllCuts_small w a cap bs hc)
end Go.Proofs.Ytkmcfbopilieeaa

end
