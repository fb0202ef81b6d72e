import Derived.Test.YtkflinobmagiiaaJoin2
import Derived.Deep.RegionWith
import Derived.Lib.Strings
/-! YtkflinobmagiiaaDrawText -/
section

namespace Go.Proofs.Ytkflinobmagiiaa
open Go.RowKit
set_option linter.unusedVariables false

/-- A number, small, at a limit, or any. -/
def numF (bs : List UInt8) (s : St) : Int × St :=
  if (belowF bs s 8).1 = 0 then (numTab.getD (belowF bs (belowF bs s 8).2 17).1.toNat 0, (belowF bs (belowF bs s 8).2 17).2)
  else if (belowF bs s 8).1 = 1 then
    ((belowF bs (belowF bs s 8).2 1000000000).1 * (belowF bs (belowF bs (belowF bs s 8).2 1000000000).2 1000000000).1, (belowF bs (belowF bs (belowF bs s 8).2 1000000000).2 1000000000).2)
  else if (belowF bs s 8).1 = 2 then (-(belowF bs (belowF bs s 8).2 100000).1, (belowF bs (belowF bs s 8).2 100000).2)
  else belowF bs (belowF bs s 8).2 70000

theorem numTab_range (k : Nat) : -9223372036854775808 ≤ numTab.getD k 0 ∧ numTab.getD k 0 ≤ 9223372036854775807 := by
  by_cases h : k < 17
  · have : k = 0 ∨ k = 1 ∨ k = 2 ∨ k = 3 ∨ k = 4 ∨ k = 5 ∨ k = 6 ∨ k = 7 ∨ k = 8 ∨ k = 9 ∨ k = 10 ∨ k = 11 ∨ k = 12 ∨ k = 13 ∨ k = 14 ∨ k = 15 ∨ k = 16 := by omega
    rcases this with rfl | rfl | rfl | rfl | rfl | rfl | rfl | rfl | rfl | rfl | rfl | rfl | rfl | rfl | rfl | rfl | rfl <;> decide
  · have e : numTab.getD k 0 = 0 := by
      have : numTab.length = 17 := rfl
      simp [List.getD, List.getElem?_eq_none (by omega : numTab.length ≤ k)]
    rw [e]; decide
theorem numF_range {bs : List UInt8} {s s' : St} {x : Int} (h : numF bs s = (x, s')) : -9223372036854775808 ≤ x ∧ x ≤ 9223372036854775807 := by
  rcases hk : belowF bs s 8 with ⟨k, s1⟩
  rw [numF, hk] at h
  simp only at h
  by_cases e0 : k = 0
  · rw [if_pos e0] at h
    simp only [Prod.mk.injEq] at h
    rw [← h.1]
    exact numTab_range _
  · rw [if_neg e0] at h
    by_cases e1 : k = 1
    · rw [if_pos e1] at h
      rcases hi : belowF bs s1 1000000000 with ⟨p, s2⟩
      rcases hj : belowF bs s2 1000000000 with ⟨q, s3⟩
      simp only [hi, hj, Prod.mk.injEq] at h
      obtain ⟨p0, p1⟩ := belowF_range hi (by omega)
      obtain ⟨q0, q1⟩ := belowF_range hj (by omega)
      have hm0 := Int.mul_nonneg p0 q0
      have hm1 : p * q ≤ 1000000000 * 1000000000 := Int.mul_le_mul (by omega) (by omega) q0 (by omega)
      rw [← h.1]
      omega
    · rw [if_neg e1] at h
      by_cases e2 : k = 2
      · rw [if_pos e2] at h
        rcases hi : belowF bs s1 100000 with ⟨p, s2⟩
        simp only [hi, Prod.mk.injEq] at h
        obtain ⟨p0, p1⟩ := belowF_range hi (by omega)
        omega
      · rw [if_neg e2] at h
        obtain ⟨p0, p1⟩ := belowF_range h (by omega)
        omega

theorem infoByte : (Try.prog.info? 5).map (fun i => (i.zero, i.size, i.bytes)) = some (some (.int .u8 0), 1, 1) := by kernel_rfl
def styleF (st b : Int) : Int := if st = 1 then b % 2 else if st = 2 then 97 + b % 4 else b
theorem styleF_range {st b : Int} (h0 : 0 ≤ b) (h1 : b ≤ 255) : 0 ≤ styleF st b ∧ styleF st b ≤ 255 := by
  unfold styleF
  split
  · omega
  · split
    · omega
    · omega
def textLoop (bs : List UInt8) (st : Int) : Nat → St → List UInt8 × St
  | 0, s => ([], s)
  | n + 1, s => (UInt8.ofNat (styleF st (byteF bs s).1).toNat :: (textLoop bs st n (byteF bs s).2).1, (textLoop bs st n (byteF bs s).2).2)
/-- Bytes, at most so many. -/
def textF (bs : List UInt8) (s : St) (most : Int) : List UInt8 × St :=
  textLoop bs (belowF bs s 4).1 (belowF bs (belowF bs s 4).2 (most + 1)).1.toNat (belowF bs (belowF bs s 4).2 (most + 1)).2
theorem textLoop_length (bs : List UInt8) (st : Int) (n : Nat) (s : St) : (textLoop bs st n s).1.length = n := by
  induction n generalizing s with
  | zero => rfl
  | succ n ih => simp [textLoop, ih]
theorem textF_length {bs : List UInt8} {s s' : St} {most : Int} {l : List UInt8} (h : textF bs s most = (l, s')) (hm : 0 ≤ most) : (l.length : Int) ≤ most := by
  rcases h1 : belowF bs s 4 with ⟨st, s1⟩
  rcases h2 : belowF bs s1 (most + 1) with ⟨n, s2⟩
  obtain ⟨n0, n1⟩ := belowF_range h2 (by omega)
  have e : l = (textLoop bs st n.toNat s2).1 := by rw [textF, h1] at h; simp only [h2] at h; rw [h]
  rw [e, textLoop_length]
  omega

theorem Drawn.keepRow {B : Nat} {w w' : World} {C : Nat} {a : Option Addr} {cap : Nat} {bs : List UInt8} {s : St} (h : Drawn B w w' C a cap bs s) {B2 e size : Nat} {v : Value} {n : Nat} {xs : List Value} (ho : w.ownsRow B2 e size v n xs) (hC : C < B2) : w'.ownsRow B2 e size v n xs :=
  ho.kept h.grown (by
    cases hv : v.ownBlock with
    | none => exact Or.inl rfl
    | some k => exact Or.inr (fun e => by have := (ho.lt k hv).1; have := Option.some.inj e; omega))
/-- An append to a row of later blocks: for the cursor it is as if nothing had been. -/
theorem Drawn.later {B : Nat} {w w1 w2 : World} {C : Nat} {a : Option Addr} {cap : Nat} {bs : List UInt8} {s : St} {row : Option Nat} (h : Drawn B w w1 C a cap bs s) (hg : w1.grownBy w2 row) (hr : ∀ k, row = some k → w.heap.size ≤ k) (hC : C < w.heap.size) (hB : B ≤ w.heap.size) : Drawn B w w2 C a cap bs s :=
  ⟨h.at_.grown hg (fun k hk => by have := hr k hk; omega), ⟨hg.os.trans h.grown.os, hg.tape.trans h.grown.tape, hg.output.trans h.grown.output, Nat.le_trans h.grown.size hg.size,
    fun k hk hkr => (hg.block k (Nat.lt_of_lt_of_le hk h.grown.size) (fun e => by have := hr k e.symm; omega)).trans (h.grown.block k hk hkr)⟩⟩

end Go.Proofs.Ytkflinobmagiiaa

end

/-! YtkflinobmagiiaaDrawSpoilM -/
section

namespace Go.Proofs.Ytkflinobmagiiaa
open Go.RowKit
set_option linter.unusedVariables false

/-- A text of which a byte is turned, dropped or added. -/
def spoilF (bs : List UInt8) (s : St) (t : ByteArray) : ByteArray × St :=
  if t.size = 0 then (⟨(textF bs s 3).1.toArray⟩, (textF bs s 3).2)
  else if (belowF bs (belowF bs s t.size).2 4).1 = 0 then
    (t.extract 0 (belowF bs s t.size).1.toNat ++ t.extract ((belowF bs s t.size).1.toNat + 1) t.size, (belowF bs (belowF bs s t.size).2 4).2)
  else if (belowF bs (belowF bs s t.size).2 4).1 = 1 then
    (t.extract 0 (belowF bs s t.size).1.toNat ++ (⟨#[UInt8.ofNat (byteF bs (belowF bs (belowF bs s t.size).2 4).2).1.toNat]⟩ : ByteArray) ++ t.extract (belowF bs s t.size).1.toNat t.size, (byteF bs (belowF bs (belowF bs s t.size).2 4).2).2)
  else if (belowF bs (belowF bs s t.size).2 4).1 = 2 then (t.extract 0 (belowF bs s t.size).1.toNat, (belowF bs (belowF bs s t.size).2 4).2)
  else
    (t.extract 0 (belowF bs s t.size).1.toNat ++ (⟨#[UInt8.ofNat (bits .xor .i64 ((t.data.toList.getD (belowF bs s t.size).1.toNat 0).toNat : Int) (1 + (belowF bs (belowF bs (belowF bs s t.size).2 4).2 255).1) % 256).toNat]⟩ : ByteArray) ++ t.extract ((belowF bs s t.size).1.toNat + 1) t.size,
      (belowF bs (belowF bs (belowF bs s t.size).2 4).2 255).2)

theorem Drawn.drewN {B : Nat} {w w' : World} {C : Nat} {a : Option Addr} {cap : Nat} {bs : List UInt8} {s : St} (h : Drawn B w w' C a cap bs s) (k : Nat) : Drawn B w (w'.drewN k) C a cap bs s :=
  ⟨h.at_.keep rfl fun _ _ => rfl, ⟨h.grown.os, h.grown.tape, h.grown.output, h.grown.size, h.grown.block⟩⟩
theorem Drawn.drew {B : Nat} {w w' : World} {C : Nat} {a : Option Addr} {cap : Nat} {bs : List UInt8} {s : St} (h : Drawn B w w' C a cap bs s) : Drawn B w w'.drew C a cap bs s := h.drewN 1
theorem Drawn.alloc {B : Nat} {w w' : World} {C : Nat} {a : Option Addr} {cap : Nat} {bs : List UInt8} {s : St} (h : Drawn B w w' C a cap bs s) (o : Obj) : Drawn B w (w'.alloc o) C a cap bs s :=
  ⟨h.at_.alloc o, grownBy_trans h.grown (World.grownBy_alloc w' o _)⟩
theorem u8wrap {x : Int} {c : UInt8} (h : x % 256 = (c.toNat : Int)) : IntKind.u8.wrap x = (c.toNat : Int) := by rw [IntKind.wrap_u8']; exact h

end Go.Proofs.Ytkflinobmagiiaa

end

/-! YtkflinobmagiiaaDrawSpoilA -/
section

namespace Go.Proofs.Ytkflinobmagiiaa
open Go.RowKit
set_option linter.unusedVariables false

end Go.Proofs.Ytkflinobmagiiaa

end
