import Derived.Test.YtpnifgpmleaohaaGreatDoorJoin26
import Derived.Deep.RegionWith
import Derived.Lib.Strings
/-! YtpnifgpmleaohaaGreatDoorZDrawText -/
section

namespace Go.Proofs.YtpnifgpmleaohaaGreatDoor
open Go.RowKit
set_option linter.unusedVariables false

/-- A number, small, at a limit, or any. -/
def numF (bs : List UInt8) (s : St) : Int × St :=
  if (belowF bs s 8).1 = 0 then (numTab.getD (belowF bs (belowF bs s 8).2 17).1.toNat 0, (belowF bs (belowF bs s 8).2 17).2)
  else if (belowF bs s 8).1 = 1 then
    ((belowF bs (belowF bs s 8).2 1000000000).1 * (belowF bs (belowF bs (belowF bs s 8).2 1000000000).2 1000000000).1, (belowF bs (belowF bs (belowF bs s 8).2 1000000000).2 1000000000).2)
  else if (belowF bs s 8).1 = 2 then (-(belowF bs (belowF bs s 8).2 100000).1, (belowF bs (belowF bs s 8).2 100000).2)
  else belowF bs (belowF bs s 8).2 70000

def styleF (st b : Int) : Int := if st = 1 then b % 2 else if st = 2 then 97 + b % 4 else b
def textLoop (bs : List UInt8) (st : Int) : Nat → St → List UInt8 × St
  | 0, s => ([], s)
  | n + 1, s => (UInt8.ofNat (styleF st (byteF bs s).1).toNat :: (textLoop bs st n (byteF bs s).2).1, (textLoop bs st n (byteF bs s).2).2)
/-- Bytes, at most so many. -/
def textF (bs : List UInt8) (s : St) (most : Int) : List UInt8 × St :=
  textLoop bs (belowF bs s 4).1 (belowF bs (belowF bs s 4).2 (most + 1)).1.toNat (belowF bs (belowF bs s 4).2 (most + 1)).2
/-- An append to a row of later blocks: for the cursor it is as if nothing had been. -/
theorem Drawn.later {B : Nat} {w w1 w2 : World} {C : Nat} {a : Option Addr} {cap : Nat} {bs : List UInt8} {s : St} {row : Option Nat} (h : Drawn B w w1 C a cap bs s) (hg : w1.grownBy w2 row) (hr : ∀ k, row = some k → w.heap.size ≤ k) (hC : C < w.heap.size) (hB : B ≤ w.heap.size) : Drawn B w w2 C a cap bs s :=
  ⟨h.at_.grown hg (fun k hk => by have := hr k hk; omega), ⟨hg.os.trans h.grown.os, hg.tape.trans h.grown.tape, hg.output.trans h.grown.output, Nat.le_trans h.grown.size hg.size,
    fun k hk hkr => (hg.block k (Nat.lt_of_lt_of_le hk h.grown.size) (fun e => by have := hr k e.symm; omega)).trans (h.grown.block k hk hkr)⟩⟩

end Go.Proofs.YtpnifgpmleaohaaGreatDoor

end

/-! YtpnifgpmleaohaaGreatDoorZDrawSpoilM -/
section

namespace Go.Proofs.YtpnifgpmleaohaaGreatDoor
open Go.RowKit
set_option linter.unusedVariables false

/-- A text of which a byte is turned, dropped or added. -/
def spoilF (bs : List UInt8) (s : St) (t : ByteArray) : ByteArray × St :=
  if t.size = 0 then (⟨(textF bs s 3).1.toArray⟩, (textF bs s 3).2)
  else if (belowF bs (belowF bs s t.size).2 4).1 = 0 then
    (t.extract 0 (belowF bs s t.size).1.toNat ++ t.extract ((belowF bs s t.size).1.toNat + 1) t.size, (belowF bs (belowF bs s t.size).2 4).2)
  else if (belowF bs (belowF bs s t.size).2 4).1 = 1 then
    (t.extract 0 (belowF bs s t.size).1.toNat ++ (⟨#[UInt8.ofNat (byteF bs (belowF bs (belowF bs s t.size).2 4).2).1.toNat]⟩ : ByteArray) ++ t.extract (belowF bs s t.size).1.toNat t.size, (byteF bs (belowF bs (belowF bs s t.size).2 4).2).2)
  else if (belowF bs (belowF bs s t.size).2 4).1 = 2 then (t.extract 0 (belowF bs s t.size).1.toNat, (belowF bs (belowF bs s t.size).2 4).2)
  else
    (t.extract 0 (belowF bs s t.size).1.toNat ++ (⟨#[UInt8.ofNat (bits .xor .i64 ((t.data.toList.getD (belowF bs s t.size).1.toNat 0).toNat : Int) (1 + (belowF bs (belowF bs (belowF bs s t.size).2 4).2 255).1) % 256).toNat]⟩ : ByteArray) ++ t.extract ((belowF bs s t.size).1.toNat + 1) t.size,
      (belowF bs (belowF bs (belowF bs s t.size).2 4).2 255).2)

theorem Drawn.drewN {B : Nat} {w w' : World} {C : Nat} {a : Option Addr} {cap : Nat} {bs : List UInt8} {s : St} (h : Drawn B w w' C a cap bs s) (k : Nat) : Drawn B w (w'.drewN k) C a cap bs s :=
  ⟨h.at_.keep rfl fun _ _ => rfl, ⟨h.grown.os, h.grown.tape, h.grown.output, h.grown.size, h.grown.block⟩⟩
theorem Drawn.drew {B : Nat} {w w' : World} {C : Nat} {a : Option Addr} {cap : Nat} {bs : List UInt8} {s : St} (h : Drawn B w w' C a cap bs s) : Drawn B w w'.drew C a cap bs s := h.drewN 1
theorem Drawn.alloc {B : Nat} {w w' : World} {C : Nat} {a : Option Addr} {cap : Nat} {bs : List UInt8} {s : St} (h : Drawn B w w' C a cap bs s) (o : Obj) : Drawn B w (w'.alloc o) C a cap bs s :=
  ⟨h.at_.alloc o, grownBy_trans h.grown (World.grownBy_alloc w' o _)⟩
end Go.Proofs.YtpnifgpmleaohaaGreatDoor

end
