/-
  What is drawn: spoilt texts; numbers' texts.
-/
import Derived.Test.YtdoofapjhgahgaaDrawText
import Derived.Deep.RegionWith
import Derived.Lib.Strings
namespace Go.Proofs.Ytdoofapjhgahgaa
open Go.RowKit
set_option linter.unusedVariables false

/-- A text of which a byte is turned, dropped or added. -/
def spoilF (bs : List UInt8) (s : St) (t : ByteArray) : ByteArray × St :=
  if t.size = 0 then (⟨(textF bs s 3).1.toArray⟩, (textF bs s 3).2)
  else if (belowF bs (belowF bs s t.size).2 4).1 = 0 then
    (t.extract 0 (belowF bs s t.size).1.toNat ++ t.extract ((belowF bs s t.size).1.toNat + 1) t.size, (belowF bs (belowF bs s t.size).2 4).2)
  else if (belowF bs (belowF bs s t.size).2 4).1 = 1 then
    (t.extract 0 (belowF bs s t.size).1.toNat ++ (⟨#[UInt8.ofNat (byteF bs (belowF bs (belowF bs s t.size).2 4).2).1.toNat]⟩ : ByteArray) ++ t.extract (belowF bs s t.size).1.toNat t.size, (byteF bs (belowF bs (belowF bs s t.size).2 4).2).2)
  else if (belowF bs (belowF bs s t.size).2 4).1 = 2 then (t.extract 0 (belowF bs s t.size).1.toNat, (belowF bs (belowF bs s t.size).2 4).2)
  else
    (t.extract 0 (belowF bs s t.size).1.toNat ++ (⟨#[UInt8.ofNat (bits .xor .i64 ((t.data.toList.getD (belowF bs s t.size).1.toNat 0).toNat : Int) (1 + (belowF bs (belowF bs (belowF bs s t.size).2 4).2 255).1) % 256).toNat]⟩ : ByteArray) ++ t.extract ((belowF bs s t.size).1.toNat + 1) t.size,
      (belowF bs (belowF bs (belowF bs s t.size).2 4).2 255).2)

theorem Drawn.drewN {B : Nat} {w w' : World} {C : Nat} {a : Option Addr} {cap : Nat} {bs : List UInt8} {s : St} (h : Drawn B w w' C a cap bs s) (k : Nat) : Drawn B w (w'.drewN k) C a cap bs s :=
  ⟨h.at_.keep rfl fun _ _ => rfl, ⟨h.grown.os, h.grown.tape, h.grown.output, h.grown.size, h.grown.block⟩⟩
theorem Drawn.drew {B : Nat} {w w' : World} {C : Nat} {a : Option Addr} {cap : Nat} {bs : List UInt8} {s : St} (h : Drawn B w w' C a cap bs s) : Drawn B w w'.drew C a cap bs s := h.drewN 1
theorem Drawn.alloc {B : Nat} {w w' : World} {C : Nat} {a : Option Addr} {cap : Nat} {bs : List UInt8} {s : St} (h : Drawn B w w' C a cap bs s) (o : Obj) : Drawn B w (w'.alloc o) C a cap bs s :=
  ⟨h.at_.alloc o, grownBy_trans h.grown (World.grownBy_alloc w' o _)⟩
theorem u8wrap {x : Int} {c : UInt8} (h : x % 256 = (c.toNat : Int)) : IntKind.u8.wrap x = (c.toNat : Int) := by rw [IntKind.wrap_u8']; exact h

end Go.Proofs.Ytdoofapjhgahgaa
