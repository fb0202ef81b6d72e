/-
  A code's row.
-/
import Derived.Test.YtpnifgpmleaohaaGreatDoorJoin46
import Derived.Test.YtpnifgpmleaohaaGreatDoorRows
namespace Go.Proofs.YtpnifgpmleaohaaGreatDoor
open Go.RowKit

theorem u8_ofNat_toNat (n : Nat) (h : n < 256) : (UInt8.ofNat n).toNat = n := by simp; omega
theorem codeRow (W : World) (x : Addr) (len : Nat) (zs : List Int) (hl : len ≤ zs.length) (hcell : ∀ i, i < zs.length → W.cell? (x.add i) = some (.int .u8 (zs.getD i 0))) (hwz : ∀ n ∈ zs, (Lit.int .u8 n).wf = true) :
    ∃ bs : List UInt8, bs.length = len ∧ ∀ j (hj : j < bs.length), ∃ b o, (some x : Option Addr) = some ⟨b, o, none⟩ ∧ b < W.heap.size ∧ W.cell? ⟨b, o + j, none⟩ = some (.int .u8 (bs[j].toNat : Int)) := by
  refine ⟨(zs.take len).map (fun n => UInt8.ofNat n.toNat), by simp [hl], fun j hj => ?_⟩
  have hj' : j < len := by simpa [hl] using hj
  obtain ⟨b, off, spot⟩ := x
  have hc := hcell j (by omega)
  have hspot : spot = none := by
    have := World.cell?_spot (hcell 0 (by omega))
    simpa [Addr.add] using this
  subst hspot
  rw [Addr.add_lit] at hc
  have hg : zs.getD j 0 = zs[j] := by simp [List.getD, (by omega : j < zs.length)]
  have hb := bounds_u8 (hwz zs[j] (List.getElem_mem _))
  refine ⟨b, off, rfl, World.block_lt_of_cell? W _ hc, ?_⟩
  rw [hc, hg]
  have e : ((zs.take len).map (fun n => UInt8.ofNat n.toNat))[j] = UInt8.ofNat zs[j].toNat := by simp
  rw [e, u8_ofNat_toNat _ (by omega)]
  congr 2
  omega
end Go.Proofs.YtpnifgpmleaohaaGreatDoor
