import Derived.Test.YtkmcfbopilieeaaJoin26
import Derived.Test.YtkmcfbopilieeaaJoin27
import Derived.Test.YtkmcfbopilieeaaJoin12
import Derived.Deep.RegionLaw
import Derived.Deep.DeepCutAuto
/-! YtkmcfbopilieeaaLaws -/
section

namespace Go.Proofs.Ytkmcfbopilieeaa
open Go.RowKit
set_option linter.unusedVariables false

theorem big_no (a : Option Addr) (cap : Nat) (bs : List UInt8) (hroom : bs.length ≤ 1048576) (w : World) :
    Calls Try.prog 12 #[.slice a bs.length cap] w fun e w' => e = .returned (.bool false) ∧ w = w' := by
  have hd : decide (1048576 < (bs.length : Int)) = false := by simp; omega
  go_enter Try.func12, Try.ntmps12
  go_wp2
  go_ret
  exact ⟨rfl, rfl⟩
theorem big_yes (a : Option Addr) (len cap : Nat) (hbig : 1048576 < len) (hm : len ≤ 9223372036854775807) (w : World) :
    Calls Try.prog 12 #[.slice a len cap] w fun e w' => e = .returned (.bool true) ∧ w = w' := by
  have hd : decide (1048576 < (len : Int)) = true := by simp; omega
  go_enter Try.func12, Try.ntmps12
  go_wp2
  go_ret
  exact ⟨rfl, rfl⟩
/-- A slice of bytes that came in, as a code. -/
theorem codeRow (W : World) (x : Addr) (len : Nat) (zs : List Int) (hl : len ≤ zs.length) (hcell : ∀ i, i < zs.length → W.cell? (x.add i) = some (.int .u8 (zs.getD i 0))) (hwz : ∀ n ∈ zs, (Lit.int .u8 n).wf = true) :
    ∃ bs : List UInt8, bs.length = len ∧ ∀ j (hj : j < bs.length), ∃ b o, (some x : Option Addr) = some ⟨b, o, none⟩ ∧ b < W.heap.size ∧ W.cell? ⟨b, o + j, none⟩ = some (.int .u8 (bs[j].toNat : Int)) := by
  refine ⟨(zs.take len).map (fun n => UInt8.ofNat n.toNat), by simp [hl], fun j hj => ?_⟩
  have hj' : j < len := by simpa [hl] using hj
  obtain ⟨b, off, spot⟩ := x
  have hc := hcell j (by omega)
  have hspot : spot = none := by
    have := World.cell?_spot (hcell 0 (by omega))
    simpa [Addr.add] using this
  subst hspot
  rw [Addr.add_lit] at hc
  have hg : zs.getD j 0 = zs[j] := by simp [List.getD, (by omega : j < zs.length)]
  have hb := bounds_u8 (hwz zs[j] (List.getElem_mem _))
  refine ⟨b, off, rfl, World.block_lt_of_cell? W _ hc, ?_⟩
  rw [hc, hg]
  have e : ((zs.take len).map (fun n => UInt8.ofNat n.toNat))[j] = UInt8.ofNat zs[j].toNat := by simp
  rw [e, u8_ofNat_toNat _ (by omega)]
  congr 2
  omega
theorem CodeIn.le {B B' : Nat} {w : World} {a : Option Addr} {bs : List UInt8} (h : CodeIn B w a bs) (hB : B ≤ B') : CodeIn B' w a bs :=
  ⟨h.room, fun j hj => by
    obtain ⟨b, o, e1, e2, e3⟩ := h.code j hj
    exact ⟨b, o, e1, Nat.lt_of_lt_of_le e2 hB, e3⟩⟩
/-- A law over a code that is too long, and over one that is not. -/
theorem law_of (F : FuncId) (w : World) (a : Option Addr) (len cap : Nat) (hm : len ≤ 9223372036854775807)
    (hb : ∃ bs : List UInt8, bs.length = len ∧ ∀ j (hj : j < bs.length), ∃ b o, a = some ⟨b, o, none⟩ ∧ b < w.heap.size ∧ w.cell? ⟨b, o + j, none⟩ = some (.int .u8 (bs[j].toNat : Int)))
    (hbig : 1048576 < len → Calls Try.prog F #[.slice a len cap] w fun e w' => e = .returned (.bool true) ∧ Below w.heap.size w w')
    (hsmall : ∀ bs : List UInt8, CodeIn w.heap.size w a bs → Calls Try.prog F #[.slice a bs.length cap] w fun e w' => e = .returned (.bool true) ∧ Below w.heap.size w w') :
    Calls Try.prog F #[.slice a len cap] w fun e w' => e = .returned (.bool true) ∧ Below w.heap.size w w' := by
  by_cases h : 1048576 < len
  · exact hbig h
  · obtain ⟨bs, rfl, hcode⟩ := hb
    exact hsmall bs ⟨by omega, hcode⟩
end Go.Proofs.Ytkmcfbopilieeaa

end

/-! YtkmcfbopilieeaaDrawMat -/
section

namespace Go.Proofs.Ytkmcfbopilieeaa
open Go.RowKit
set_option linter.unusedVariables false

/-- A table was drawn. -/
def DrewM (B : Nat) (w : World) (C : Nat) (e : Ending) (w' : World) : Prop := ∃ r c v xs, e = .returned (.agg #[.int .i64 r, .int .i64 c, v]) ∧ xs.length ≤ 9 ∧ Row w.heap.size w' v xs ∧ Turned B w w' C
theorem grownBy_setCell (w : World) (a : Addr) (u : Value) : w.grownBy (w.setCell a u) (some a.block) :=
  ⟨rfl, rfl, rfl, by simp [World.setCell], fun k _ hk => heap_setCell_other w a k u (fun e => hk (by rw [e]))⟩
theorem Turned.setCell {B : Nat} {w w1 : World} {C : Nat} (h : Turned B w w1 C) (hC : C < w.heap.size) (a : Addr) (u : Value) (ha : w.heap.size ≤ a.block) : Turned B w (w1.setCell a u) C :=
  h.store hC (grownBy_setCell w1 a u) ha
theorem Turned.block {B : Nat} {w w1 : World} {C : Nat} (h : Turned B w w1 C) {k : Nat} (hk : k < w.heap.size) (hne : k ≠ C) : w1.heap[k]? = w.heap[k]? := h.2.block k hk (fun e => hne (Option.some.inj e))

theorem l3Vec_i (B : Nat) (w : World) (C : Nat) (n : Int) (h0 : 0 ≤ n) (h1 : n ≤ 6) (hc : Cu B w C) :
    Calls Try.prog 84 #[.pointer (some ⟨C, 0, none⟩), .int .i64 n] w (DrewV (fun xs => (xs.length : Int) ≤ 6) B w C) := by
  obtain ⟨m, rfl⟩ : ∃ m : Nat, n = m := ⟨n.toNat, by omega⟩
  exact (l3Vec_e B w C m (by omega) hc).mono fun e w' ⟨v, xs, he, hl, hr, ht⟩ => ⟨v, xs, he, by show (xs.length : Int) ≤ 6; omega, hr, ht⟩
/-- A table and a row were drawn. -/
def DrewMB (w : World) (e : Ending) (w' : World) : Prop := ∃ r c v xs u ys, e = .returned (.tuple #[.agg #[.int .i64 r, .int .i64 c, v], u]) ∧ (xs.length ≤ 9 ∧ ys.length ≤ 7) ∧ Row w.heap.size w' v xs ∧ Row w.heap.size w' u ys ∧ Below w.heap.size w w'
end Go.Proofs.Ytkmcfbopilieeaa

end
