/-
  The contracts of spec.Unhex and impl.Unhex.
-/
import Derived.Test.YtehlbloalfclcaaDoorProg
import Derived.Test.YtehlbloalfclcaaDoorBytes
import Derived.Test.YtehlbloalfclcaaDoorPut
import Derived.Test.YtehlbloalfclcaaDoorReadFixed
import Derived.Test.YtehlbloalfclcaaDoorHex
import Derived.Lib.Hide
import Derived.Lib.Bytealg
import Derived.WalkSpells
import Derived.WalkLawsBesides
namespace Go.Proofs.YtehlbloalfclcaaDoor
open Go.RowKit
set_option linter.unusedVariables false

def digL : List UInt8 := [48, 49, 50, 51, 52, 53, 54, 55, 56, 57, 97, 98, 99, 100, 101, 102]
/-- The value of a digit, or -1. -/
def hv (b : UInt8) : Int := Lib.indexByte digL b
theorem hv_at {k : Nat} (h : k < 16) : hv (hexC k) = k := by
  rcases lt16 h with rfl | rfl | rfl | rfl | rfl | rfl | rfl | rfl | rfl | rfl | rfl | rfl | rfl | rfl | rfl | rfl <;> decide
theorem hv_none {b : UInt8} (h : ∀ k, k < 16 → hexC k ≠ b) : hv b = -1 := by
  have e : ∀ k (hk : k < 16), (hexC k == b) = false := fun k hk => by simpa using h k hk
  have e0 := e 0 (by omega); have e1 := e 1 (by omega); have e2 := e 2 (by omega); have e3 := e 3 (by omega)
  have e4 := e 4 (by omega); have e5 := e 5 (by omega); have e6 := e 6 (by omega); have e7 := e 7 (by omega)
  have e8 := e 8 (by omega); have e9 := e 9 (by omega); have e10 := e 10 (by omega); have e11 := e 11 (by omega)
  have e12 := e 12 (by omega); have e13 := e 13 (by omega); have e14 := e 14 (by omega); have e15 := e 15 (by omega)
  simp only [hexC, List.getD_cons_zero, List.getD_cons_succ] at e0 e1 e2 e3 e4 e5 e6 e7 e8 e9 e10 e11 e12 e13 e14 e15
  simp [hv, digL, Lib.indexByte, e0, e1, e2, e3, e4, e5, e6, e7, e8, e9, e10, e11, e12, e13, e14, e15]
theorem hv_range (b : UInt8) : -1 ≤ hv b ∧ hv b ≤ 15 := by
  by_cases h : ∀ k, k < 16 → hexC k ≠ b
  · rw [hv_none h]; omega
  · have : ∃ k, k < 16 ∧ hexC k = b := Classical.byContradiction fun hn => h fun k hk hb => hn ⟨k, hk, hb⟩
    obtain ⟨k, hk, rfl⟩ := this
    rw [hv_at hk]; omega
theorem hexC_inj {j k : Nat} (hj : j < 16) (hk : k < 16) (h : hexC j = hexC k) : j = k := by
  have h1 := hv_at hj
  have h2 := hv_at hk
  rw [h] at h1
  omega

/-- The text of which Hex makes l. -/
def unL : List UInt8 → Option (List UInt8)
  | [] => some []
  | [_] => none
  | a :: b :: t => if hv a < 0 ∨ hv b < 0 then none else (unL t).map (UInt8.ofNat (16 * (hv a).toNat + (hv b).toNat) :: ·)
theorem unL_odd : ∀ (l : List UInt8), l.length % 2 = 1 → unL l = none
  | [], h => by simp at h
  | [_], _ => rfl
  | a :: b :: t, h => by
    rw [unL, unL_odd t (by simp at h; omega)]
    simp
theorem unL_drop {l : List UInt8} {k : Nat} (h : k + 1 < l.length) : unL (l.drop k) = if hv (l.getD k 0) < 0 ∨ hv (l.getD (k + 1) 0) < 0 then none else (unL (l.drop (k + 2))).map (UInt8.ofNat (16 * (hv (l.getD k 0)).toNat + (hv (l.getD (k + 1) 0)).toNat) :: ·) := by
  rw [List.drop_eq_getElem_cons (by omega : k < l.length), List.drop_eq_getElem_cons h, unL]
  simp [List.getD, h, (by omega : k < l.length)]
def unS (s : ByteArray) : ByteArray := match unL s.data.toList with | some xs => ⟨xs.toArray⟩ | none => ByteArray.empty
def unB (s : ByteArray) : Bool := (unL s.data.toList).isSome
theorem un_some {s : ByteArray} {xs : List UInt8} (h : unL s.data.toList = some xs) : unS s = ⟨xs.toArray⟩ ∧ unB s = true := by simp [unS, unB, h]
theorem un_none {s : ByteArray} (h : unL s.data.toList = none) : unS s = ByteArray.empty ∧ unB s = false := by simp [unS, unB, h]

theorem stringsliteIndexByte (s : ByteArray) (c : Int) (w : World) :
    Calls Tryd.prog 39 #[.string s, .int .u8 c] w fun e w' => e = .returned (.int .i64 (Lib.indexByte s.data.toList c.toNat.toUInt8)) ∧ w' = w := by
  go_enter Tryd.func39, Tryd.ntmps39
  go_wp2
  rw [run_callFunc_extern Tryd.func48 (by kernel_rfl) (by kernel_rfl) (by kernel_rfl) (e := Extern.BytealgIndexByte.indexByte) (by kernel_rfl), Lib.run_indexByteString]
  simp only [Result.andThen]
  rw [Oper.upon_value]
  go_wp2
  go_ret
  exact ⟨rfl, rfl⟩
theorem stringsIndexByte (b : UInt8) (w : World) :
    Calls Tryd.prog 28 #[.string ⟨#[48, 49, 50, 51, 52, 53, 54, 55, 56, 57, 97, 98, 99, 100, 101, 102]⟩, .int .u8 b.toNat] w fun e w' => e = .returned (.int .i64 (hv b)) ∧ w = w' := by
  go_enter Tryd.func28, Tryd.ntmps28
  go_wp2_with (go_at_call 39; refine (stringsliteIndexByte _ _ _).mono ?_; rintro e w' ⟨rfl, rfl⟩)
  go_ret
  exact ⟨rfl, rfl⟩

set_option maxRecDepth 100000 in
theorem implUnhex_even (s : ByteArray) (w : World) (hs : s.size ≤ 35184372088832) (he : s.size % 2 = 0) :
    Calls Tryd.prog 15 #[.string s] w fun e w' => e = .returned (.tuple #[.string (unS s), .bool (unB s)]) ∧ Below w.heap.size w w' := by
  obtain ⟨i0, hi, hz0, hz1, hz2⟩ := info_parts Tryd.infoU8
  have hodd : (((s.size : Int) % 2) != 0) = false := by simp; omega
  have hll : s.data.toList.length = s.size := by simp
  have HL := Lib.hid hll
  have HE := Lib.hid he
  clear hll he
  go_enter Tryd.func15, Tryd.ntmps15
  go_wp2_with (at_make; refine wpList_make_own _ rfl _ _ 22 rfl w.heap.size 5 i0 (.int .u8 0) 1 Tryd.underlying22 hi hz0 hz1 _ _ _ (s.size / 2) rfl rfl (by omega) (by rw [hz2]; omega) (by unfold maxLen; omega) (Nat.le_refl _) ?_)
  intro w0 hown0 hgrow0
  go_wp2
  go_loopw [4, 5] (fun v i wr => ∃ (k j : Nat) (xs : List UInt8), j ≤ s.size ∧ Hid (j = 2 * k) ∧ k ≤ j ∧ Hid (unL s.data.toList = (unL (s.data.toList.drop j)).map (xs ++ ·)) ∧ i = .int .i64 j ∧ wr.ownsRow w.heap.size 5 1 v k (bcells xs) ∧ Below w.heap.size w wr)
    (fun _ i _ => s.size - (intOf i).toNat)
  case atStart => exact ⟨0, 0, [], Nat.zero_le _, Lib.hid rfl, Nat.le_refl _, Lib.hid (by simp), rfl, hown0, (Below.refl _ _).grown hgrow0 (Nat.le_refl _) (fun k h => by cases h)⟩
  case round =>
    obtain ⟨k, j, xs, hj, hjk, hkj, hx, rfl, hown, hbl⟩ := hrel
    have hsz := hbl.size
    by_cases hlt : j < s.size
    · have hlt1 : j + 1 < s.size := by have := hjk.out; have := HE.out; omega
      have hb0 : (s[j].toNat : Int) < 256 := by have := s[j].toNat_lt; omega
      have hb1 : (s[j + 1].toNat : Int) < 256 := by have := s[j + 1].toNat_lt; omega
      have HD := Lib.hid (unL_drop (l := s.data.toList) (k := j) (by rw [HL.out]; exact hlt1))
      rw [str_getD s j hlt, str_getD s (j + 1) hlt1] at HD
      obtain ⟨a, ha⟩ : ∃ a, a = hv s[j] := ⟨_, rfl⟩
      obtain ⟨b, hb⟩ : ∃ b, b = hv s[j + 1] := ⟨_, rfl⟩
      have ra := hv_range s[j]
      have rb := hv_range s[j + 1]
      rw [← ha] at ra HD
      rw [← hb] at rb HD
      obtain ⟨ra0, ra1⟩ := ra
      obtain ⟨rb0, rb1⟩ := rb
      have ca := stringsIndexByte s[j]
      have cb := stringsIndexByte s[j + 1]
      rw [← ha] at ca
      rw [← hb] at cb
      have CA := Lib.hid ca
      have CB := Lib.hid cb
      clear ca cb ha hb
      by_cases hneg : a < 0 ∨ b < 0
      · have HR := Lib.hid (un_none (s := s) (by rw [hx.out, HD.out, if_pos hneg]; rfl))
        by_cases ha0 : a < 0
        · clear hneg
          go_wp2_with fail
          refine (CA.out _).mono ?_
          rintro e w' ⟨rfl, rfl⟩
          go_wp2_with fail
          refine (CB.out _).mono ?_
          rintro e w' ⟨rfl, rfl⟩
          go_wp2
          go_ret2
          exact ⟨by rw [HR.out.1, HR.out.2]; rfl, hbl⟩
        · have hb0' : b < 0 := by omega
          clear hneg
          go_wp2_with fail
          refine (CA.out _).mono ?_
          rintro e w' ⟨rfl, rfl⟩
          go_wp2_with fail
          refine (CB.out _).mono ?_
          rintro e w' ⟨rfl, rfl⟩
          go_wp2
          go_ret2
          exact ⟨by rw [HR.out.1, HR.out.2]; rfl, hbl⟩
      · have ha0 : 0 ≤ a := by omega
        have hb0' : 0 ≤ b := by omega
        have HX : Hid (unL s.data.toList = (unL (s.data.toList.drop (j + 2))).map ((xs ++ [UInt8.ofNat (16 * a.toNat + b.toNat)]) ++ ·)) := Lib.hid (by
          rw [hx.out, HD.out, if_neg hneg, Option.map_map]
          congr 1
          funext ys
          simp)
        have HB : Hid ((16 * a + b) = ((UInt8.ofNat (16 * a.toNat + b.toNat)).toNat : Int)) := Lib.hid (by rw [u8_ofNat_toNat _ (by omega)]; omega)
        have hdb : decide (b < 0) = false := by simp; omega
        clear hneg
        have hor : bits .or .i64 (a * 16) b = 16 * a + b := by rw [i64_join 4 (by omega) _ _ (by omega) (by omega) (by omega) (by omega) (by omega)]; omega
        go_wp2_with fail
        refine (CA.out _).mono ?_
        rintro e w' ⟨rfl, rfl⟩
        go_wp2_with fail
        refine (CB.out _).mono ?_
        rintro e w' ⟨rfl, rfl⟩
        go_wp2_with (go_at_call 23; refine (put_own w.heap.size wr.heap.size 1 1 k _ xs [UInt8.ofNat (16 * a.toNat + b.toNat)] _ (hown.alloc _) (by simp; omega) (by simp) rfl Nat.one_pos (by omega) (cell_one_put _ _ _ _ HB.out)).mono ?_; rintro e w' ⟨v', rfl, ho, hb2⟩)
        go_roundw
        case rel => exact ⟨k + 1, j + 2, _, by omega, Lib.hid (by have := hjk.out; omega), by omega, HX, by go_num, ho, (hbl.alloc hsz _).trans hb2⟩
        case measure => simp [intOf]; omega
    · obtain rfl : j = s.size := by omega
      have HR := Lib.hid (un_some (s := s) (xs := xs) (by rw [hx.out, List.drop_of_length_le (by rw [HL.out]; exact Nat.le_refl _)]; simp [unL]))
      have hcv := own_string (P := Tryd.prog) 22 9 Tryd.underlying22 Tryd.underlying5 Tryd.underlying9 hown
      go_wp2
      go_ret2
      exact ⟨by rw [HR.out.1, HR.out.2]; rfl, hbl⟩

set_option maxRecDepth 100000 in
theorem implUnhex_odd (s : ByteArray) (w : World) (hs : s.size ≤ 35184372088832) (he : s.size % 2 = 1) :
    Calls Tryd.prog 15 #[.string s] w fun e w' => e = .returned (.tuple #[.string (unS s), .bool (unB s)]) ∧ Below w.heap.size w w' := by
  have hodd : (((s.size : Int) % 2) != 0) = true := by simp; omega
  have HR := Lib.hid (un_none (s := s) (unL_odd _ (by simpa using he)))
  clear he
  go_enter Tryd.func15, Tryd.ntmps15
  go_wp2
  go_ret2
  exact ⟨by rw [HR.out.1, HR.out.2]; rfl, Below.refl _ _⟩

end Go.Proofs.YtehlbloalfclcaaDoor
