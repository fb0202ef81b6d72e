/-
  The contracts of impl.Dec and impl.ReadDec.
-/
import Derived.Test.YthficfeiomddmaaDoorProg
import Derived.Test.YthficfeiomddmaaDoorBytes
import Derived.Test.YthficfeiomddmaaDoorReadDecM
import Derived.Test.YthficfeiomddmaaDoorDec
import Derived.Test.YthficfeiomddmaaDoorShelf
import Derived.Lib.Hide
import Derived.Lib.AppendIntMem
import Derived.Lib.SmallJoins
import Derived.WalkSpells
import Derived.WalkLawsBesides
namespace Go.Proofs.YthficfeiomddmaaDoor
open Go.RowKit Go.Joins
set_option linter.unusedVariables false

theorem gTab : Tryd.prog.globalNamed "internal/strconv.uint64pow10" = some 4 := by kernel_rfl
theorem gSyn : Tryd.prog.globalNamed "strconv.ErrSyntax" = some 2 := by kernel_rfl
theorem gRng : Tryd.prog.globalNamed "strconv.ErrRange" = some 3 := by kernel_rfl

/-- What strconv reads of the library's variables. -/
structure LaidT (w : World) : Prop where
  size : 4 < w.heap.size
  tab : Lib.TabIs Tryd.prog w "internal/strconv.uint64pow10" .u64 Lib.pow10Tab
structure LaidW (w : World) : Prop where
  t : LaidT w
  sizeS : 2 < w.heap.size
  sizeR : 3 < w.heap.size
  syn : ∃ tp p, w.var? Tryd.prog "strconv.ErrSyntax" = some #[.iface tp p]
  rng : ∃ tp p, w.var? Tryd.prog "strconv.ErrRange" = some #[.iface tp p]
theorem LaidT.below {w w' : World} (h : LaidT w) (hb : Below w.heap.size w w') : LaidT w' :=
  ⟨Nat.lt_of_lt_of_le h.size hb.size, var?_below hb gTab h.size h.tab⟩
theorem LaidW.below {w w' : World} (h : LaidW w) (hb : Below w.heap.size w w') : LaidW w' := by
  obtain ⟨t1, p1, e1⟩ := h.syn
  obtain ⟨t2, p2, e2⟩ := h.rng
  exact ⟨h.t.below hb, Nat.lt_of_lt_of_le h.sizeS hb.size, Nat.lt_of_lt_of_le h.sizeR hb.size, ⟨t1, p1, var?_below hb gSyn h.sizeS e1⟩, ⟨t2, p2, var?_below hb gRng h.sizeR e2⟩⟩

theorem implDec_any (n : Int) (w : World) (h0 : -9223372036854775808 ≤ n) (h1 : n ≤ 9223372036854775807) (hL : LaidT w) :
    Calls Tryd.prog 37 #[.int .i64 n] w fun e w' => e = .returned (.string ⟨(Lib.itoa n).toArray⟩) ∧ Below w.heap.size w w' := by
  have HT := Lib.hid hL.tab
  go_enter Tryd.func37, Tryd.ntmps37
  go_wp2_with fail
  refine (Tryd.strconv_Itoa n h0 h1 _ HT.out).mono ?_
  rintro e w' ⟨rfl, k, os, rfl⟩
  have hb := Lib.below_grow w.heap.size w (Nat.le_refl _) k os
  generalize Sort.grow (w.drewN k) os = w1 at hb ⊢
  go_wp2_with fail
  go_ret
  exact ⟨rfl, hb⟩

/-- Atoi of what is no number: nought, and an error. -/
theorem atoiFails (s : ByteArray) (hlim : s.size ≤ 281474976710656) (hok : ∀ v, Lib.atoiAll s.data.toList ≠ .ok v) (hrg : Lib.atoiAll s.data.toList ≠ .range) (tp : TypeId) (p : Value) (w : World) (hvar : w.var? Tryd.prog "strconv.ErrSyntax" = some #[.iface tp p]) :
    Calls Tryd.prog 58 #[.string s] w fun e w' => ∃ v, e = .returned (.tuple #[.int .i64 0, .iface 102 v]) ∧ Below w.heap.size w w' := by
  cases ha : Lib.atoiAll s.data.toList with
  | ok v => exact absurd ha (hok v)
  | range => exact absurd ha hrg
  | _ => exact (Any.strconv_Atoi_syntax_var Tryd.laysC172 s hlim ha tp p w hvar).mono fun e w' ⟨N, he, _, _, hb⟩ => ⟨_, he, hb⟩

/-- What ReadDec tells. -/
def rdN (s : ByteArray) : Int := (rdO s.data.toList).getD 0
def rdB (s : ByteArray) : Bool := (rdO s.data.toList).isSome
theorem rdv_some {s : ByteArray} {n : Int} (h : rdO s.data.toList = some n) : rdN s = n ∧ rdB s = true := by simp [rdN, rdB, h]
theorem rdv_none {s : ByteArray} (h : rdO s.data.toList = none) : rdN s = 0 ∧ rdB s = false := by simp [rdN, rdB, h]

set_option maxRecDepth 100000 in
theorem implReadDec_any (s : ByteArray) (w : World) (hs : s.size ≤ 281474976710656) (hL : LaidW w) :
    Calls Tryd.prog 40 #[.string s] w fun e w' => e = .returned (.tuple #[.int .i64 (rdN s), .bool (rdB s)]) ∧ Below w.heap.size w w' := by
  obtain ⟨t, ht⟩ : ∃ t, t = Lib.trimPrefix s.data.toList [45] := ⟨_, rfl⟩
  have htl : t.length ≤ s.size := by
    rw [ht]
    have e : s.data.toList.length = s.size := by simp
    rw [← e]
    simp only [Lib.trimPrefix]
    split
    · simp
    · exact Nat.le_refl _
  have TP := fun w => Tryd.strings_TrimPrefix s ⟨#[45]⟩ w
  have e45 : (⟨#[45]⟩ : ByteArray).data.toList = [45] := rfl
  rw [e45, ← ht] at TP
  have HT := Lib.hid TP
  have HS := Lib.hid hs
  clear TP e45
  have hs9 : s.size ≤ 9223372036854775806 := by omega
  clear hs
  by_cases h9 : 9 < t.length
  · have HR := Lib.hid (rdv_none (s := s) (rd_long (by rw [← ht]; exact h9)))
    clear ht
    go_enter Tryd.func40, Tryd.ntmps40
    go_wp2_with fail
    refine (HT.out _).mono ?_
    rintro e w' ⟨rfl, rfl⟩
    go_wp2_with fail
    go_ret2
    exact ⟨by rw [HR.out.1, HR.out.2]; rfl, Below.refl _ _⟩
  · cases ha : Lib.atoiAll s.data.toList with
    | ok v =>
      have hvb := Lib.atoiAll_bounds ha
      have AT := Lib.hid (fun w => Tryd.strconv_Atoi_ok s hs9 v ha w)
      have hsl : s.toList = s.data.toList := Lib.toList_data s
      have HLD := Lib.hid hL.t
      by_cases hv : Lib.itoa v = s.data.toList
      · have HR := Lib.hid (rdv_some (rd_yes (by rw [← ht]; exact h9) hv))
        have htest : (Lib.itoa v == s.toList) = true := by rw [hsl, hv]; simp
        clear ht ha hv hsl hL
        go_enter Tryd.func40, Tryd.ntmps40
        go_wp2_with fail
        refine (HT.out _).mono ?_
        rintro e w' ⟨rfl, rfl⟩
        go_wp2_with fail
        refine (AT.out _).mono ?_
        rintro e w1 ⟨rfl, hw1⟩
        have hb1 : Below w'.heap.size w' w1 := by
          rcases hw1 with rfl | ⟨t, rfl⟩
          · exact Below.refl _ _
          · exact below_bytesWorld _ _ _ _ (Nat.le_refl _)
        clear hw1
        go_wp2_with fail
        refine (implDec_any v _ hvb.1 hvb.2 (HLD.out.below hb1)).mono ?_
        rintro e w2 ⟨rfl, hb2⟩
        go_wp2_with fail
        go_ret2
        exact ⟨by rw [HR.out.1, HR.out.2]; rfl, hb1.trans (hb2.mono hb1.size)⟩
      · have HR := Lib.hid (rdv_none (s := s) (rd_other ha hv))
        have htest : (Lib.itoa v == s.toList) = false := by rw [hsl]; simpa using hv
        clear ht ha hv hsl hL
        go_enter Tryd.func40, Tryd.ntmps40
        go_wp2_with fail
        refine (HT.out _).mono ?_
        rintro e w' ⟨rfl, rfl⟩
        go_wp2_with fail
        refine (AT.out _).mono ?_
        rintro e w1 ⟨rfl, hw1⟩
        have hb1 : Below w'.heap.size w' w1 := by
          rcases hw1 with rfl | ⟨t, rfl⟩
          · exact Below.refl _ _
          · exact below_bytesWorld _ _ _ _ (Nat.le_refl _)
        clear hw1
        go_wp2_with fail
        refine (implDec_any v _ hvb.1 hvb.2 (HLD.out.below hb1)).mono ?_
        rintro e w2 ⟨rfl, hb2⟩
        go_wp2_with fail
        go_ret2
        exact ⟨by rw [HR.out.1, HR.out.2]; rfl, hb1.trans (hb2.mono hb1.size)⟩
    | range =>
      obtain ⟨tp, p, hvar⟩ := hL.rng
      have AT := Lib.hid (Tryd.strconv_Atoi_range_var s HS.out ha tp p w hvar)
      have HR := Lib.hid (rdv_none (s := s) (rd_bad fun v hv => by rw [ha] at hv; cases hv))
      clear ht ha hvar hL
      go_enter Tryd.func40, Tryd.ntmps40
      go_wp2_with fail
      refine (HT.out _).mono ?_
      rintro e w' ⟨rfl, rfl⟩
      go_wp2_with fail
      refine AT.out.mono ?_
      rintro e w1 ⟨N, rfl, hN, hcell, hb1⟩
      go_wp2_with fail
      go_ret2
      exact ⟨by rw [HR.out.1, HR.out.2]; rfl, hb1⟩
    | _ =>
      obtain ⟨tp, p, hvar⟩ := hL.syn
      have AT := Lib.hid (atoiFails s HS.out (fun v => by rw [ha]; simp) (by rw [ha]; simp) tp p w hvar)
      have HR := Lib.hid (rdv_none (s := s) (rd_bad fun v hv => by rw [ha] at hv; cases hv))
      clear ht ha hvar hL
      go_enter Tryd.func40, Tryd.ntmps40
      go_wp2_with fail
      refine (HT.out _).mono ?_
      rintro e w' ⟨rfl, rfl⟩
      go_wp2_with fail
      refine AT.out.mono ?_
      rintro e w1 ⟨v, rfl, hb1⟩
      go_wp2_with fail
      go_ret2
      exact ⟨by rw [HR.out.1, HR.out.2]; rfl, hb1⟩
end Go.Proofs.YthficfeiomddmaaDoor
