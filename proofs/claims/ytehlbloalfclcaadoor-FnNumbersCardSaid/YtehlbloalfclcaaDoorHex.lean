/-
  The contracts of spec.Hex and impl.Hex.
-/
import Derived.Test.YtehlbloalfclcaaDoorProg
import Derived.Test.YtehlbloalfclcaaDoorBytes
import Derived.Test.YtehlbloalfclcaaDoorPut
import Derived.Test.YtehlbloalfclcaaDoorReadFixed
import Derived.Lib.Hide
import Derived.WalkSpells
import Derived.WalkLawsBesides
import Derived.Deep.AppendLies
import Derived.Deep.RegionLaw
namespace Go.Proofs.YtehlbloalfclcaaDoor
open Go.RowKit
set_option linter.unusedVariables false

/-- The sixteen digits. -/
def hexC (k : Nat) : UInt8 := [48, 49, 50, 51, 52, 53, 54, 55, 56, 57, 97, 98, 99, 100, 101, 102].getD k 0
def hexL : List UInt8 → List UInt8
  | [] => []
  | b :: t => hexC (b.toNat / 16) :: hexC (b.toNat % 16) :: hexL t
theorem hexL_append (a b : List UInt8) : hexL (a ++ b) = hexL a ++ hexL b := by
  induction a with
  | nil => rfl
  | cons x t ih => simp [hexL, ih]
theorem hexL_length (a : List UInt8) : (hexL a).length = 2 * a.length := by
  induction a with
  | nil => rfl
  | cons x t ih => simp [hexL, ih]; omega
theorem hexL_take (l : List UInt8) (k : Nat) (h : k < l.length) : hexL (l.take (k + 1)) = hexL (l.take k) ++ [hexC ((l.getD k 0).toNat / 16), hexC ((l.getD k 0).toNat % 16)] := by
  rw [List.take_succ_eq_append_getElem h, hexL_append]
  have e : l.getD k 0 = l[k] := by simp [List.getD, h]
  rw [e]
  rfl
theorem lt16 {k : Nat} (h : k < 16) : k = 0 ∨ k = 1 ∨ k = 2 ∨ k = 3 ∨ k = 4 ∨ k = 5 ∨ k = 6 ∨ k = 7 ∨ k = 8 ∨ k = 9 ∨ k = 10 ∨ k = 11 ∨ k = 12 ∨ k = 13 ∨ k = 14 ∨ k = 15 := by omega

theorem wrap_tdiv16 (D : Nat) (h : D < 256) : IntKind.i64.wrap ((IntKind.i64.wrap (D : Int)).tdiv 16) = ((D / 16 : Nat) : Int) := by
  have e : IntKind.i64.wrap (D : Int) = D := IntWalk.i64_in _ (by omega)
  have e2 : (D : Int).tdiv 16 = (D : Int) / 16 := Int.tdiv_eq_ediv_of_nonneg (by omega)
  have e3 : IntKind.i64.wrap ((D : Int) / 16) = (D : Int) / 16 := IntWalk.i64_in _ (by omega)
  rw [e, e2, e3]
  omega
theorem wrap_tmod16 (D : Nat) (h : D < 256) : (IntKind.i64.wrap (D : Int)).tmod 16 = ((D % 16 : Nat) : Int) := by
  have e : IntKind.i64.wrap (D : Int) = D := IntWalk.i64_in _ (by omega)
  have e2 : (D : Int).tmod 16 = (D : Int) % 16 := Int.tmod_eq_emod_of_nonneg (by omega)
  rw [e, e2]
  omega

theorem and15 (D : Nat) (h : D < 256) : bits .and .u8 (D : Int) 15 = ((D % 16 : Nat) : Int) := by
  have e := u8_and_nat D 15 h (by omega)
  rw [show (15 : Int) = ((15 : Nat) : Int) from rfl, e, nat_mask4]

theorem digit_run (k : Nat) (hk : k < 16) (x : Int) (hx : x = (k : Int)) (w : World) :
    (Instr.index 9 (.string ⟨#[48, 49, 50, 51, 52, 53, 54, 55, 56, 57, 97, 98, 99, 100, 101, 102]⟩) (.int .u8 x)).run Tryd.prog w = .ok (.int .u8 (hexC k).toNat) w := by
  subst hx
  rcases lt16 hk with rfl | rfl | rfl | rfl | rfl | rfl | rfl | rfl | rfl | rfl | rfl | rfl | rfl | rfl | rfl | rfl
  all_goals kernel_rfl

theorem block_put {W : World} {B : Nat} {cs : Array Value} {t : TypeId} {fr : Nat × Nat} (hb : W.heap[B]? = some (.cells cs t fr)) (l : List UInt8) (hl : cs.toList = bcells l) :
    ∀ j u, (bcells l)[j]? = some u → W.cell? ⟨B, j, none⟩ = some u := by
  intro j u hu
  rw [cell_of_row W B j cs t fr hb, ← Array.getElem?_toList, hl]
  exact hu

set_option maxRecDepth 100000 in
theorem implHex_any (s : ByteArray) (w : World) (hs : s.size ≤ 35184372088832) :
    Calls Tryd.prog 16 #[.string s] w fun e w' => e = .returned (.string ⟨(hexL s.data.toList).toArray⟩) ∧ Below w.heap.size w w' := by
  obtain ⟨i0, hi, hz0, hz1, hz2⟩ := info_parts Tryd.infoU8
  go_enter Tryd.func16, Tryd.ntmps16
  go_wp2_with (at_make; refine wpList_make_own _ rfl _ _ 22 rfl w.heap.size 5 i0 (.int .u8 0) 1 Tryd.underlying22 hi hz0 hz1 _ _ _ (2 * s.size) rfl rfl (by omega) (by rw [hz2]; omega) (by unfold maxLen; omega) (Nat.le_refl _) ?_)
  intro w0 hown0 hgrow0
  go_wp2
  go_loopw [3, 4] (fun v i wr => ∃ k : Nat, k ≤ s.size ∧ i = .int .i64 k ∧ wr.ownsRow w.heap.size 5 1 v (2 * k) (bcells (hexL (s.data.toList.take k))) ∧ Below w.heap.size w wr)
    (fun _ i _ => s.size - (intOf i).toNat)
  case atStart => exact ⟨0, Nat.zero_le _, rfl, hown0, (Below.refl _ _).grown hgrow0 (Nat.le_refl _) (fun k h => by cases h)⟩
  case round =>
    obtain ⟨k, hk, rfl, hown, hbl⟩ := hrel
    have hsz := hbl.size
    by_cases hlt : k < s.size
    · have hb8 : (s[k].toNat : Int) < 256 := by have := s[k].toNat_lt; omega
      have HL := Lib.hid (hexL_take s.data.toList k (by simpa using hlt))
      rw [str_getD s k hlt] at HL
      have ha15 := and15 s[k].toNat (by omega)
      have hd1 := digit_run (s[k].toNat / 16) (by omega) ((s[k].toNat : Int) / 16) (by omega)
      have hd2 := digit_run (s[k].toNat % 16) (by omega) ((s[k].toNat : Int) % 16) (by omega)
      go_wp2
      go_region_law (go_simp; go_at_call 23; (refine (put_own w.heap.size wr.heap.size 2 2 (2 * k) _ (hexL (s.data.toList.take k)) [hexC (s[k].toNat / 16), hexC (s[k].toNat % 16)] _ (by exact (hown.alloc _).drew) (by simp; omega) (by simp) rfl (by omega) (by omega) (by exact block_put (heap_alloc_new wr _) _ rfl)).mono ?_); rintro e w' ⟨v', rfl, ho, hb2⟩)
      all_goals
        go_wp2
        go_roundw
        case rel => exact ⟨k + 1, by omega, by go_num, by rw [HL.out]; exact ho, (hbl.alloc hsz _).drew.trans hb2⟩
        case measure => simp [intOf]; omega
    · have hcv := own_string (P := Tryd.prog) 22 9 Tryd.underlying22 Tryd.underlying5 Tryd.underlying9 hown
      go_wp2
      go_ret
      exact ⟨by rw [List.take_of_length_le (by simp; omega)]; rfl, hbl⟩

end Go.Proofs.YtehlbloalfclcaaDoor
