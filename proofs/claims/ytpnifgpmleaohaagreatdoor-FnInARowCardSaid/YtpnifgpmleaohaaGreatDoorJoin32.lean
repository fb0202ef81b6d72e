import Derived.Test.YtpnifgpmleaohaaGreatDoorJoin29
import Derived.Test.YtpnifgpmleaohaaGreatDoorJoin31
/-! YtpnifgpmleaohaaGreatDoorZDraw1 -/
section

namespace Go.Proofs.YtpnifgpmleaohaaGreatDoor
open Go.RowKit
set_option linter.unusedVariables false

/-- The code, as the walks take it. -/
structure CodeIn (B : Nat) (w : World) (a : Option Addr) (bs : List UInt8) : Prop where
  room : bs.length ≤ 1048576
  code : ∀ j (hj : j < bs.length), ∃ b o, a = some ⟨b, o, none⟩ ∧ b < B ∧ w.cell? ⟨b, o + j, none⟩ = some (.int .u8 (bs[j].toNat : Int))
theorem CodeIn.below {B : Nat} {w w' : World} {a : Option Addr} {bs : List UInt8} (h : CodeIn B w a bs) (hb : Below B w w') : CodeIn B w' a bs :=
  ⟨h.room, fun j hj => by
    obtain ⟨b, o, e1, e2, e3⟩ := h.code j hj
    exact ⟨b, o, e1, e2, (hb.cell (p := ⟨b, o + j, none⟩) e2).trans e3⟩⟩

def drawVarF (bs : List UInt8) : Int := (numF bs (newSt bs)).1
def drawHexF (bs : List UInt8) : List UInt8 := (textF bs (newSt bs) 40).1
/-- The text whose beginning may be a Var. -/
def readVarS (bs : List UInt8) : ByteArray × St :=
  (varI (numF bs (newSt bs)).1 ++ (⟨(textF bs (numF bs (newSt bs)).2 4).1.toArray⟩ : ByteArray), (textF bs (numF bs (newSt bs)).2 4).2)
def drawReadVarF (bs : List UInt8) : ByteArray :=
  if (belowF bs (readVarS bs).2 4).1 = 0 then (spoilF bs (belowF bs (readVarS bs).2 4).2 (readVarS bs).1).1 else (readVarS bs).1
end Go.Proofs.YtpnifgpmleaohaaGreatDoor

end

/-! YtpnifgpmleaohaaGreatDoorZDrawE -/
section

namespace Go.Proofs.YtpnifgpmleaohaaGreatDoor
open Go.RowKit
set_option linter.unusedVariables false

/-- Block C holds a cursor over a code that lies below B. -/
def Cu (B : Nat) (w : World) (C : Nat) : Prop := ∃ a cap bs s, CurAt B w C a cap bs s
/-- The cursor's block alone was turned; what is new is new. -/
def Turned (B : Nat) (w w' : World) (C : Nat) : Prop := Cu B w' C ∧ w.grownBy w' (some C)
theorem Drawn.turned {B : Nat} {w w' : World} {C : Nat} {a : Option Addr} {cap : Nat} {bs : List UInt8} {s : St} (h : Drawn B w w' C a cap bs s) : Turned B w w' C := ⟨⟨a, cap, bs, s, h.at_⟩, h.grown⟩
theorem Cu.lt {B : Nat} {w : World} {C : Nat} (h : Cu B w C) : C < w.heap.size := by
  obtain ⟨a, cap, bs, s, h⟩ := h
  exact (Array.getElem?_eq_some_iff.1 h.cur).1
theorem Cu.up {B : Nat} {w : World} {C : Nat} (h : Cu B w C) : B ≤ C := by
  obtain ⟨a, cap, bs, s, h⟩ := h
  exact CurAt.up h
theorem Cu.grown {B : Nat} {w w' : World} {C : Nat} {row : Option Nat} (h : Cu B w C) (hg : w.grownBy w' row) (hr : ∀ k, row = some k → B ≤ k ∧ k ≠ C) : Cu B w' C := by
  obtain ⟨a, cap, bs, s, h⟩ := h
  exact ⟨a, cap, bs, s, h.grown hg hr⟩
theorem Cu.alloc {B : Nat} {w : World} {C : Nat} (h : Cu B w C) (o : Obj) : Cu B (w.alloc o) C := h.grown (World.grownBy_alloc w o none) (fun k hk => by cases hk)
theorem grown_of_below {w w' : World} (hb : Below w.heap.size w w') (row : Option Nat) : w.grownBy w' row := ⟨hb.os, hb.tape, hb.output, hb.size, fun b hb' _ => hb.block b hb'⟩
theorem Cu.below {B : Nat} {w w' : World} {C : Nat} (h : Cu B w C) (hb : Below w.heap.size w w') : Cu B w' C := h.grown (grown_of_below hb none) (fun k hk => by cases hk)
theorem Turned.refl {B : Nat} {w : World} {C : Nat} (h : Cu B w C) : Turned B w w C := ⟨h, World.grownBy.refl _ _⟩
theorem Turned.trans {B : Nat} {w w1 w2 : World} {C : Nat} (h : Turned B w w1 C) (k : Turned B w1 w2 C) : Turned B w w2 C := ⟨k.1, grownBy_trans h.2 k.2⟩
/-- Behind a call that makes memory of its own. -/
theorem Turned.then {B : Nat} {w w1 w2 : World} {C : Nat} (h : Turned B w w1 C) (k : Below w1.heap.size w1 w2) : Turned B w w2 C := ⟨h.1.below k, grownBy_trans h.2 (grown_of_below k _)⟩
theorem Turned.alloc {B : Nat} {w w1 : World} {C : Nat} (h : Turned B w w1 C) (o : Obj) : Turned B w (w1.alloc o) C := h.then ((Below.refl _ _).alloc (Nat.le_refl _) o)
theorem Turned.drewN {B : Nat} {w w1 : World} {C : Nat} (h : Turned B w w1 C) (n : Nat) : Turned B w (w1.drewN n) C := h.then ⟨rfl, rfl, rfl, Nat.le_refl _, fun _ _ => rfl⟩
theorem Turned.size {B : Nat} {w w1 : World} {C : Nat} (h : Turned B w w1 C) : w.heap.size ≤ w1.heap.size := h.2.size
theorem Turned.cu {B : Nat} {w w1 : World} {C : Nat} (h : Turned B w w1 C) : Cu B w1 C := h.1
theorem Turned.below {B B' : Nat} {w w' : World} {C : Nat} (h : Turned B w w' C) (hB : B' ≤ w.heap.size) (hC : B' ≤ C) : Below B' w w' :=
  (Below.refl B' w).grown h.2 hB (fun k hk => by cases hk; exact hC)

/-- What a drawing call leaves. -/
def DrewI (P : Int → Prop) (B : Nat) (w : World) (C : Nat) (e : Ending) (w' : World) : Prop := ∃ x, e = .returned (.int .i64 x) ∧ P x ∧ Turned B w w' C
def DrewS (P : ByteArray → Prop) (B : Nat) (w : World) (C : Nat) (e : Ending) (w' : World) : Prop := ∃ x, e = .returned (.string x) ∧ P x ∧ Turned B w w' C
def DrewB (B : Nat) (w : World) (C : Nat) (e : Ending) (w' : World) : Prop := ∃ x, e = .returned (.bool x) ∧ Turned B w w' C

theorem l1New_e (w : World) (a : Option Addr) (cap : Nat) (bs : List UInt8) (hc : CodeIn w.heap.size w a bs) :
    Calls Tryz.prog 63 #[.slice a bs.length cap] w fun e w' => e = .returned (.pointer (some ⟨w.heap.size, 0, none⟩)) ∧ Cu w.heap.size w' w.heap.size ∧ w.grownBy w' none :=
  (l1New_any w.heap.size w a cap bs (Nat.le_refl _) hc.room hc.code).mono fun e w' ⟨he, h, hg⟩ => ⟨he, ⟨_, _, _, _, h⟩, hg⟩
theorem l1Below_e (B : Nat) (w : World) (C : Nat) (n : Int) (hn : 0 < n) (hc : Cu B w C) :
    Calls Tryz.prog 68 #[.pointer (some ⟨C, 0, none⟩), .int .i64 n] w (DrewI (fun x => 0 ≤ x ∧ x < n) B w C) := by
  obtain ⟨a, cap, bs, s, hc⟩ := hc
  rcases hx : belowF bs s n with ⟨x, s'⟩
  exact (l1Below_at B w C a cap bs s s' n x hx hc).mono fun e w' ⟨he, hd⟩ => ⟨x, he, belowF_range hx hn, hd.turned⟩
theorem l1Once_e (B : Nat) (w : World) (C : Nat) (n : Int) (hc : Cu B w C) :
    Calls Tryz.prog 66 #[.pointer (some ⟨C, 0, none⟩), .int .i64 n] w (DrewB B w C) := by
  obtain ⟨a, cap, bs, s, hc⟩ := hc
  rcases hx : belowF bs s n with ⟨x, s'⟩
  exact (l1Once_at B w C a cap bs s s' n x hx hc).mono fun e w' ⟨he, hd⟩ => ⟨x == 0, he, hd.turned⟩
theorem l1PickInt_e (B : Nat) (w : World) (C : Nat) (L m : Nat) (zs : List Int) (P : Int → Prop) (hm : zs.length = m) (hm0 : 0 < m) (hm1 : m ≤ 1000) (hP : ∀ x, x ∈ zs → P x)
    (hc : Cu B w C) (hLC : L ≠ C) (hz : ∀ j, j < m → w.cell? ⟨L, j, none⟩ = some (.int .i64 (zs.getD j 0))) :
    Calls Tryz.prog 138 #[.pointer (some ⟨C, 0, none⟩), .slice (some ⟨L, 0, none⟩) m m] w (DrewI P B w C) := by
  obtain ⟨a, cap, bs, s, hc⟩ := hc
  rcases hx : belowF bs s m with ⟨x, s'⟩
  obtain ⟨h0, h1⟩ := belowF_range hx (by omega)
  refine (l1PickInt_at B w C a cap bs s s' x L m zs hm hm0 hm1 hx hc hLC hz).mono fun e w' ⟨he, hd⟩ => ⟨_, he, hP _ ?_, hd.turned⟩
  have hl : x.toNat < zs.length := by omega
  simp [List.getD, hl]
/-- A list of numbers that the call has made: what its cells hold. -/
theorem ints_cells (w : World) (zs : List Int) (t : TypeId) (j : Nat) (hj : j < zs.length) : (w.alloc (.cells (zs.map (Value.int .i64)).toArray t)).cell? ⟨w.heap.size, j, none⟩ = some (.int .i64 (zs.getD j 0)) := by
  rw [cell_of_row _ _ _ _ _ _ (heap_alloc_new w _)]
  simp [List.getD, hj]
end Go.Proofs.YtpnifgpmleaohaaGreatDoor

end
