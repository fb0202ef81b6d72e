/-
  What all laws share.
-/
import Derived.Test.YtdoofapjhgahgaaDrawE
namespace Go.Proofs.Ytdoofapjhgahgaa
open Go.RowKit
set_option linter.unusedVariables false

theorem big_no (a : Option Addr) (cap : Nat) (bs : List UInt8) (hroom : bs.length ≤ 1048576) (w : World) :
    Calls Try.prog 8 #[.slice a bs.length cap] w fun e w' => e = .returned (.bool false) ∧ w = w' := by
  have hd : decide (1048576 < (bs.length : Int)) = false := by simp; omega
  go_enter Try.func8, Try.ntmps8
  go_wp2
  go_ret
  exact ⟨rfl, rfl⟩
theorem big_yes (a : Option Addr) (len cap : Nat) (hbig : 1048576 < len) (hm : len ≤ 9223372036854775807) (w : World) :
    Calls Try.prog 8 #[.slice a len cap] w fun e w' => e = .returned (.bool true) ∧ w = w' := by
  have hd : decide (1048576 < (len : Int)) = true := by simp; omega
  go_enter Try.func8, Try.ntmps8
  go_wp2
  go_ret
  exact ⟨rfl, rfl⟩
/-- A slice of bytes that came in, as a code. -/
theorem codeRow (W : World) (x : Addr) (len : Nat) (zs : List Int) (hl : len ≤ zs.length) (hcell : ∀ i, i < zs.length → W.cell? (x.add i) = some (.int .u8 (zs.getD i 0))) (hwz : ∀ n ∈ zs, (Lit.int .u8 n).wf = true) :
    ∃ bs : List UInt8, bs.length = len ∧ ∀ j (hj : j < bs.length), ∃ b o, (some x : Option Addr) = some ⟨b, o, none⟩ ∧ b < W.heap.size ∧ W.cell? ⟨b, o + j, none⟩ = some (.int .u8 (bs[j].toNat : Int)) := by
  refine ⟨(zs.take len).map (fun n => UInt8.ofNat n.toNat), by simp [hl], fun j hj => ?_⟩
  have hj' : j < len := by simpa [hl] using hj
  obtain ⟨b, off, spot⟩ := x
  have hc := hcell j (by omega)
  have hspot : spot = none := by
    have := World.cell?_spot (hcell 0 (by omega))
    simpa [Addr.add] using this
  subst hspot
  rw [Addr.add_lit] at hc
  have hg : zs.getD j 0 = zs[j] := by simp [List.getD, (by omega : j < zs.length)]
  have hb := bounds_u8 (hwz zs[j] (List.getElem_mem _))
  refine ⟨b, off, rfl, World.block_lt_of_cell? W _ hc, ?_⟩
  rw [hc, hg]
  have e : ((zs.take len).map (fun n => UInt8.ofNat n.toNat))[j] = UInt8.ofNat zs[j].toNat := by simp
  rw [e, u8_ofNat_toNat _ (by omega)]
  congr 2
  omega
theorem CodeIn.le {B B' : Nat} {w : World} {a : Option Addr} {bs : List UInt8} (h : CodeIn B w a bs) (hB : B ≤ B') : CodeIn B' w a bs :=
  ⟨h.room, fun j hj => by
    obtain ⟨b, o, e1, e2, e3⟩ := h.code j hj
    exact ⟨b, o, e1, Nat.lt_of_lt_of_le e2 hB, e3⟩⟩
/-- A law over a code that is too long, and over one that is not. -/
theorem law_of (F : FuncId) (w : World) (a : Option Addr) (len cap : Nat) (hm : len ≤ 9223372036854775807)
    (hb : ∃ bs : List UInt8, bs.length = len ∧ ∀ j (hj : j < bs.length), ∃ b o, a = some ⟨b, o, none⟩ ∧ b < w.heap.size ∧ w.cell? ⟨b, o + j, none⟩ = some (.int .u8 (bs[j].toNat : Int)))
    (hbig : 1048576 < len → Calls Try.prog F #[.slice a len cap] w fun e w' => e = .returned (.bool true) ∧ Below w.heap.size w w')
    (hsmall : ∀ bs : List UInt8, CodeIn w.heap.size w a bs → Calls Try.prog F #[.slice a bs.length cap] w fun e w' => e = .returned (.bool true) ∧ Below w.heap.size w w') :
    Calls Try.prog F #[.slice a len cap] w fun e w' => e = .returned (.bool true) ∧ Below w.heap.size w w' := by
  by_cases h : 1048576 < len
  · exact hbig h
  · obtain ⟨bs, rfl, hcode⟩ := hb
    exact hsmall bs ⟨by omega, hcode⟩
end Go.Proofs.Ytdoofapjhgahgaa
