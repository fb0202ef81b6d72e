/-
  The texts of numbers with a point: the contracts, both sides.
-/
import Derived.Test.YthficfeiomddmaaDoorProg
import Derived.Test.YthficfeiomddmaaDoorFixTM
import Derived.Test.YthficfeiomddmaaDoorSpecFix
import Derived.Test.YthficfeiomddmaaDoorShelf
import Derived.Test.YthficfeiomddmaaDoorReadDec
import Derived.Test.YthficfeiomddmaaDoorSpecReadDec
import Derived.Deep.QuietTactic
import Derived.BigQuiet
import Derived.Outline
namespace Go.Proofs.YthficfeiomddmaaDoor
open Go.RowKit
set_option linter.unusedVariables false
set_option linter.unusedSimpArgs false

theorem below_drewN {B : Nat} (w : World) (n : Nat) : Below B w (w.drewN n) := ⟨rfl, rfl, rfl, Nat.le_refl _, fun _ _ => rfl⟩
theorem str_ret {a b : ByteArray} (h : a = b) : Ending.returned (.string a) = .returned (.string b) := by rw [h]
theorem fixshow_neg {m : Nat} (h0 : m ≤ 2147483647) (h : 0 < m) : (((⟨#[45]⟩ : ByteArray) ++ (⟨(Lib.itoa ((m : Int) / 65536)).toArray⟩ : ByteArray)) ++ (⟨#[43]⟩ : ByteArray)) ++ (⟨(Lib.itoa ((m : Int) % 65536)).toArray⟩ : ByteArray) = ⟨(showL (-(m : Int))).toArray⟩ := by
  have e1 : (m : Int) / 65536 = (((-(m : Int)).natAbs / 65536 : Nat) : Int) := by omega
  have e2 : (m : Int) % 65536 = (((-(m : Int)).natAbs % 65536 : Nat) : Int) := by omega
  rw [e1, e2, showL_in (by omega) (by omega), showP, if_pos (by omega)]
  generalize Lib.itoa (((-(m : Int)).natAbs / 65536 : Nat) : Int) = A
  generalize Lib.itoa (((-(m : Int)).natAbs % 65536 : Nat) : Int) = B
  have a := bytes_append [45] A
  have b := bytes_append ([45] ++ A) [43]
  have c := bytes_append (([45] ++ A) ++ [43]) B
  refine (congrArg (· ++ _) (congrArg (· ++ _) a)).trans ((congrArg (· ++ _) b).trans (c.trans ?_))
  simp
theorem fixshow_pos {n : Int} (h1 : n ≤ 2147483647) (h : ¬ n < 0) : (((⟨#[]⟩ : ByteArray) ++ (⟨(Lib.itoa (n / 65536)).toArray⟩ : ByteArray)) ++ (⟨#[43]⟩ : ByteArray)) ++ (⟨(Lib.itoa (n % 65536)).toArray⟩ : ByteArray) = ⟨(showL n).toArray⟩ := by
  have e1 : n / 65536 = ((n.natAbs / 65536 : Nat) : Int) := by omega
  have e2 : n % 65536 = ((n.natAbs % 65536 : Nat) : Int) := by omega
  rw [e1, e2, showL_in (by omega) h1, showP, if_neg h]
  have a := bytes_append [] (Lib.itoa ((n.natAbs / 65536 : Nat) : Int))
  have b := bytes_append ([] ++ Lib.itoa ((n.natAbs / 65536 : Nat) : Int)) [43]
  have c := bytes_append (([] ++ Lib.itoa ((n.natAbs / 65536 : Nat) : Int)) ++ [43]) (Lib.itoa ((n.natAbs % 65536 : Nat) : Int))
  refine (congrArg (· ++ _) (congrArg (· ++ _) a)).trans ((congrArg (· ++ _) b).trans (c.trans ?_))
  simp

theorem dec_out {n : Int} (h0 : 0 ≤ n) (h1 : n ≤ 9223372036854775807) : ∃ D : ByteArray, D = ⟨(Lib.itoa n).toArray⟩ ∧ D.size ≤ 20 := ⟨_, rfl, by
  rw [itoa_pos' (by omega)]
  exact decDigits_len20 (by omega)⟩

set_option maxRecDepth 100000 in
theorem implShowFix_any (n : Int) (w : World) (hT : LaidT w) :
    Calls Tryd.prog 21 #[.int .i64 n] w fun e w' => e = .returned (.string ⟨(showL n).toArray⟩) ∧ Below w.heap.size w w' := by
  have HT := Lib.hid hT
  clear hT
  by_cases hr : -2147483647 ≤ n ∧ n ≤ 2147483647
  · obtain ⟨h0, h1⟩ := hr
    have HO := Lib.hid (okB_yes h0 h1)
    by_cases hn : n < 0
    · obtain ⟨m, rfl⟩ : ∃ m : Nat, n = -(m : Int) := ⟨n.natAbs, by omega⟩
      have hm0 : 0 < m := by omega
      have hm1 : m ≤ 2147483647 := by omega
      have hs := fixshow_neg hm1 hm0
      clear hn h0 h1
      obtain ⟨D1, e1, s1⟩ := dec_out (n := (m : Int) / 65536) (by omega) (by omega)
      obtain ⟨D2, e2, s2⟩ := dec_out (n := (m : Int) % 65536) (by omega) (by omega)
      have C1 := fun (w : World) (h : LaidT w) => implDec_any ((m : Int) / 65536) w (by omega) (by omega) h
      have C2 := fun (w : World) (h : LaidT w) => implDec_any ((m : Int) % 65536) w (by omega) (by omega) h
      rw [← e1, ← e2] at hs
      rw [← e1] at C1
      rw [← e2] at C2
      have HS := Lib.hid hs
      have H1 := Lib.hid C1
      have H2 := Lib.hid C2
      clear hs C1 C2 e1 e2
      go_enter Tryd.func21, Tryd.ntmps21
      go_wp2_with fail
      refine (implFixOk_any _ _).mono ?_
      rintro e w1 ⟨rfl, rfl⟩
      rw [HO.out]
      go_wp2_with fail
      refine (H1.out _ HT.out).mono ?_
      rintro e w2 ⟨rfl, hb2⟩
      go_wp2_with fail
      refine (H2.out _ (HT.out.below hb2)).mono ?_
      rintro e w3 ⟨rfl, hb3⟩
      go_wp2_with fail
      go_ret
      exact ⟨str_ret HS.out, hb2.trans (hb3.mono hb2.size)⟩
    · have hs := fixshow_pos h1 hn
      have hn0 : 0 ≤ n := by omega
      clear hn
      obtain ⟨D1, e1, s1⟩ := dec_out (n := n / 65536) (by omega) (by omega)
      obtain ⟨D2, e2, s2⟩ := dec_out (n := n % 65536) (by omega) (by omega)
      have C1 := fun (w : World) (h : LaidT w) => implDec_any (n / 65536) w (by omega) (by omega) h
      have C2 := fun (w : World) (h : LaidT w) => implDec_any (n % 65536) w (by omega) (by omega) h
      rw [← e1, ← e2] at hs
      rw [← e1] at C1
      rw [← e2] at C2
      have HS := Lib.hid hs
      have H1 := Lib.hid C1
      have H2 := Lib.hid C2
      clear hs C1 C2 e1 e2
      go_enter Tryd.func21, Tryd.ntmps21
      go_wp2_with fail
      refine (implFixOk_any _ _).mono ?_
      rintro e w1 ⟨rfl, rfl⟩
      rw [HO.out]
      go_wp2_with fail
      refine (H1.out _ HT.out).mono ?_
      rintro e w2 ⟨rfl, hb2⟩
      go_wp2_with fail
      refine (H2.out _ (HT.out.below hb2)).mono ?_
      rintro e w3 ⟨rfl, hb3⟩
      go_wp2_with fail
      go_ret
      exact ⟨str_ret HS.out, hb2.trans (hb3.mono hb2.size)⟩
  · have HO := Lib.hid (okB_no (x := n) (by omega))
    have HS := Lib.hid (showL_out (n := n) (by omega))
    go_enter Tryd.func21, Tryd.ntmps21
    go_wp2_with fail
    refine (implFixOk_any _ _).mono ?_
    rintro e w1 ⟨rfl, rfl⟩
    rw [HO.out]
    go_wp2_with fail
    go_ret
    exact ⟨by rw [HS.out] <;> rfl, Below.refl _ _⟩

set_option maxRecDepth 100000 in
theorem specShowFix_any (n : Int) (w : World) :
    Calls Tryd.prog 29 #[.int .i64 n] w fun e w' => e = .returned (.string ⟨(showL n).toArray⟩) ∧ Below w.heap.size w w' := by
  by_cases hr : -2147483647 ≤ n ∧ n ≤ 2147483647
  · obtain ⟨h0, h1⟩ := hr
    have HO := Lib.hid (okB_yes h0 h1)
    by_cases hn : n < 0
    · obtain ⟨m, rfl⟩ : ∃ m : Nat, n = -(m : Int) := ⟨n.natAbs, by omega⟩
      have hm0 : 0 < m := by omega
      have hm1 : m ≤ 2147483647 := by omega
      have hs := fixshow_neg hm1 hm0
      clear hn h0 h1
      obtain ⟨D1, e1, s1⟩ := dec_out (n := (m : Int) / 65536) (by omega) (by omega)
      obtain ⟨D2, e2, s2⟩ := dec_out (n := (m : Int) % 65536) (by omega) (by omega)
      have C1 := fun (w : World) => specDec_any ((m : Int) / 65536) w (by omega) (by omega)
      have C2 := fun (w : World) => specDec_any ((m : Int) % 65536) w (by omega) (by omega)
      rw [← e1, ← e2] at hs
      rw [← e1] at C1
      rw [← e2] at C2
      have HS := Lib.hid hs
      have H1 := Lib.hid C1
      have H2 := Lib.hid C2
      clear hs C1 C2 e1 e2
      go_enter Tryd.func29, Tryd.ntmps29
      go_wp2_with fail
      refine (specFixOk_any _ _).mono ?_
      rintro e w1 ⟨rfl, rfl⟩
      rw [HO.out]
      go_wp2_with fail
      refine (H1.out _).mono ?_
      rintro e w2 ⟨rfl, hb2⟩
      go_wp2_with fail
      refine (H2.out _).mono ?_
      rintro e w3 ⟨rfl, hb3⟩
      go_wp2_with fail
      go_ret
      exact ⟨str_ret HS.out, hb2.trans (hb3.mono hb2.size)⟩
    · have hs := fixshow_pos h1 hn
      have hn0 : 0 ≤ n := by omega
      clear hn
      obtain ⟨D1, e1, s1⟩ := dec_out (n := n / 65536) (by omega) (by omega)
      obtain ⟨D2, e2, s2⟩ := dec_out (n := n % 65536) (by omega) (by omega)
      have C1 := fun (w : World) => specDec_any (n / 65536) w (by omega) (by omega)
      have C2 := fun (w : World) => specDec_any (n % 65536) w (by omega) (by omega)
      rw [← e1, ← e2] at hs
      rw [← e1] at C1
      rw [← e2] at C2
      have HS := Lib.hid hs
      have H1 := Lib.hid C1
      have H2 := Lib.hid C2
      clear hs C1 C2 e1 e2
      go_enter Tryd.func29, Tryd.ntmps29
      go_wp2_with fail
      refine (specFixOk_any _ _).mono ?_
      rintro e w1 ⟨rfl, rfl⟩
      rw [HO.out]
      go_wp2_with fail
      refine (H1.out _).mono ?_
      rintro e w2 ⟨rfl, hb2⟩
      go_wp2_with fail
      refine (H2.out _).mono ?_
      rintro e w3 ⟨rfl, hb3⟩
      go_wp2_with fail
      go_ret
      exact ⟨str_ret HS.out, hb2.trans (hb3.mono hb2.size)⟩
  · have HO := Lib.hid (okB_no (x := n) (by omega))
    have HS := Lib.hid (showL_out (n := n) (by omega))
    go_enter Tryd.func29, Tryd.ntmps29
    go_wp2_with fail
    refine (specFixOk_any _ _).mono ?_
    rintro e w1 ⟨rfl, rfl⟩
    rw [HO.out]
    go_wp2_with fail
    go_ret
    exact ⟨by rw [HS.out] <;> rfl, Below.refl _ _⟩

theorem lawShowFix (a : Int) (w : World) (hT : LaidT w) :
    Calls Tryd.prog 10 #[.int .i64 a] w fun e w' => e = .returned (.bool true) ∧ Below w.heap.size w w' := by
  have HT := Lib.hid hT
  clear hT
  go_enter Tryd.func10, Tryd.ntmps10
  go_wp2_with fail
  refine (specShowFix_any a _).mono ?_
  rintro e w1 ⟨rfl, hb1⟩
  go_wp2_with fail
  refine (implShowFix_any a _ (HT.out.below hb1)).mono ?_
  rintro e w2 ⟨rfl, hb2⟩
  go_wp2_with fail
  go_ret
  exact ⟨rfl, hb1.trans (hb2.mono hb1.size)⟩

theorem indexPlus (s : ByteArray) (w : World) (x : Int) (hx : Lib.indexByte s.data.toList 43 = x) :
    Calls Tryd.prog 66 #[.string s, .string ⟨#[43]⟩] w fun e w' => e = .returned (.int .i64 x) ∧ w' = w := by
  have := Tryd.stringslite_Index_one s 43 w
  rwa [hx] at this
theorem cutPlus_any (s : ByteArray) (w : World) (hs : s.size ≤ 9223372036854775806) :
    Calls Tryd.prog 55 #[.string s, .string ⟨#[43]⟩] w fun e w' => e = .returned (.tuple #[.string ⟨(s.data.toList.take (ixP s.data.toList)).toArray⟩, .string ⟨(s.data.toList.drop (ixP s.data.toList + 1)).toArray⟩, .bool (decide (ixP s.data.toList < s.data.toList.length))]) ∧ ∃ n, w' = w.drewN n := by
  have hll : s.data.toList.length = s.size := by simp
  by_cases h : ixP s.data.toList < s.data.toList.length
  · obtain ⟨k, hk⟩ : ∃ k, ixP s.data.toList = k := ⟨_, rfl⟩
    rw [hk] at h
    have hx : Lib.indexByte s.data.toList 43 = (k : Int) := by rw [ixP_index, hk, if_pos h]
    have HX := Lib.hid hx
    have c1 : k < s.size := by omega
    have HD := Lib.hid (decide_eq_true h)
    have HK := Lib.hid hk
    have ht : (⟨(s.data.toList.take k).toArray⟩ : ByteArray) = s.extract 0 k := by
      apply ByteArray.ext
      apply Array.ext'
      rw [Lib.extract_data]
      simp
    have hd : (⟨(s.data.toList.drop (k + 1)).toArray⟩ : ByteArray) = s.extract (k + 1) s.size := by
      apply ByteArray.ext
      apply Array.ext'
      rw [Lib.extract_data, ← hll, List.take_of_length_le (by simp)]
    have HT := Lib.hid ht
    have HD2 := Lib.hid hd
    clear hx h hk ht hd hll
    go_enter Tryd.func55, Tryd.ntmps55
    go_wp2_with fail
    refine (indexPlus s _ k HX.out).mono ?_
    rintro e w1 ⟨rfl, rfl⟩
    go_wp2_with fail
    go_quiet (fail)
    go_wp2
    go_ret3
    exact ⟨by rw [HK.out, HD.out, HT.out, HD2.out] <;> rfl, _, rfl⟩
  · have hk : ixP s.data.toList = s.data.toList.length := by have := ixP_le s.data.toList; omega
    have hx : Lib.indexByte s.data.toList 43 = -1 := by rw [ixP_index, if_neg h]
    have HX := Lib.hid hx
    have HK := Lib.hid hk
    have HD := Lib.hid (decide_eq_false (p := s.data.toList.length < s.data.toList.length) (by omega))
    have ht : (⟨(s.data.toList.take s.data.toList.length).toArray⟩ : ByteArray) = s := by rw [List.take_length]
    have hd : (⟨(s.data.toList.drop (s.data.toList.length + 1)).toArray⟩ : ByteArray) = ByteArray.empty := by
      rw [List.drop_of_length_le (by omega)]; rfl
    have HT := Lib.hid ht
    have HD2 := Lib.hid hd
    clear hx h hk ht hd hll
    go_enter Tryd.func55, Tryd.ntmps55
    go_wp2_with fail
    refine (indexPlus s _ (-1) HX.out).mono ?_
    rintro e w1 ⟨rfl, rfl⟩
    go_wp2_with fail
    go_ret3
    exact ⟨by rw [HK.out, HD.out, HT.out, HD2.out] <;> rfl, 0, rfl⟩
theorem stringsCutPlus_any (s : ByteArray) (w : World) (hs : s.size ≤ 9223372036854775806) :
    Calls Tryd.prog 38 #[.string s, .string ⟨#[43]⟩] w fun e w' => e = .returned (.tuple #[.string ⟨(s.data.toList.take (ixP s.data.toList)).toArray⟩, .string ⟨(s.data.toList.drop (ixP s.data.toList + 1)).toArray⟩, .bool (decide (ixP s.data.toList < s.data.toList.length))]) ∧ Below w.heap.size w w' := by
  go_enter Tryd.func38, Tryd.ntmps38
  go_wp2_with fail
  refine (cutPlus_any s _ hs).mono ?_
  rintro e w1 ⟨rfl, n, rfl⟩
  go_wp2_with fail
  go_ret3
  exact ⟨rfl, below_drewN _ _⟩
theorem hasMinus (l : List UInt8) : Lib.hasPrefix l [45] = decide (l.head? = some 45) := by
  cases l with
  | nil => rfl
  | cons c t =>
    simp only [Lib.hasPrefix, List.isPrefixOf, List.head?_cons, Option.some.injEq, Bool.and_true]
    by_cases h : c = 45
    · subst h; rfl
    · have h' : ((45 : UInt8) == c) = false := by rw [beq_eq_false_iff_ne]; exact fun e => h e.symm
      rw [h', decide_eq_false h]
theorem hasMinus_any (s : ByteArray) (w : World) (b : Bool) (hb : decide (s.data.toList.head? = some 45) = b) :
    Calls Tryd.prog 67 #[.string s, .string ⟨#[45]⟩] w fun e w' => e = .returned (.bool b) ∧ w = w' := by
  refine (Tryd.stringslite_HasPrefix s ⟨#[45]⟩ w).mono fun e w' ⟨he, hw⟩ => ⟨?_, hw.symm⟩
  rw [he, ← hb, ← hasMinus]
theorem cutMinus_any (s : ByteArray) (w : World) (hs : s.size ≤ 9223372036854775806) :
    Calls Tryd.prog 56 #[.string s, .string ⟨#[45]⟩] w fun e w' => e = .returned (.tuple #[.string ⟨(unsign s.data.toList).toArray⟩, .bool (decide (s.data.toList.head? = some 45))]) ∧ ∃ n, w' = w.drewN n := by
  have hll : s.data.toList.length = s.size := by simp
  by_cases h : s.data.toList.head? = some 45
  · have HB := Lib.hid (decide_eq_true h)
    have h1 : 1 ≤ s.size := by
      cases hc : s.data.toList with
      | nil => rw [hc] at h; cases h
      | cons c t => rw [hc] at hll; simp at hll; omega
    have hd : (⟨(unsign s.data.toList).toArray⟩ : ByteArray) = s.extract 1 s.size := by
      apply ByteArray.ext
      apply Array.ext'
      rw [Lib.extract_data, ← hll, List.take_of_length_le (by simp), unsign, if_pos h]
    have HD := Lib.hid hd
    clear h hll hd
    go_enter Tryd.func56, Tryd.ntmps56
    go_wp2_with fail
    refine (hasMinus_any s _ true HB.out).mono ?_
    rintro e w1 ⟨rfl, rfl⟩
    go_wp2_with fail
    go_ret2
    exact ⟨by rw [HB.out, HD.out] <;> rfl, 0, rfl⟩
  · have HB := Lib.hid (decide_eq_false h)
    have hd : (⟨(unsign s.data.toList).toArray⟩ : ByteArray) = s := by rw [unsign, if_neg h]
    have HD := Lib.hid hd
    clear h hll hd
    go_enter Tryd.func56, Tryd.ntmps56
    go_wp2_with fail
    refine (hasMinus_any s _ false HB.out).mono ?_
    rintro e w1 ⟨rfl, rfl⟩
    go_wp2_with fail
    go_ret2
    exact ⟨by rw [HB.out, HD.out] <;> rfl, 0, rfl⟩
theorem stringsCutMinus_any (s : ByteArray) (w : World) (hs : s.size ≤ 9223372036854775806) :
    Calls Tryd.prog 39 #[.string s, .string ⟨#[45]⟩] w fun e w' => e = .returned (.tuple #[.string ⟨(unsign s.data.toList).toArray⟩, .bool (decide (s.data.toList.head? = some 45))]) ∧ Below w.heap.size w w' := by
  go_enter Tryd.func39, Tryd.ntmps39
  go_wp2_with fail
  refine (cutMinus_any s _ hs).mono ?_
  rintro e w1 ⟨rfl, n, rfl⟩
  go_wp2_with fail
  go_ret2
  exact ⟨rfl, below_drewN _ _⟩

/-- What ReadFix tells. -/
def fxN (s : ByteArray) : Int := (rfO s.data.toList).getD 0
def fxB (s : ByteArray) : Bool := (rfO s.data.toList).isSome
theorem fx_some {s : ByteArray} {n : Int} (h : rfO s.data.toList = some n) : fxN s = n ∧ fxB s = true := by simp [fxN, fxB, h]
theorem fx_none {s : ByteArray} (h : rfO s.data.toList = none) : fxN s = 0 ∧ fxB s = false := by simp [fxN, fxB, h]

set_option maxRecDepth 100000 in
theorem implReadFix_any (s : ByteArray) (w : World) (hs : s.size ≤ 281474976710656) (hL : LaidW w) :
    Calls Tryd.prog 22 #[.string s] w fun e w' => e = .returned (.tuple #[.int .i64 (fxN s), .bool (fxB s)]) ∧ Below w.heap.size w w' := by
  have hll : s.data.toList.length = s.size := by simp
  obtain ⟨A, hA⟩ : ∃ A : ByteArray, A = ⟨(s.data.toList.take (ixP s.data.toList)).toArray⟩ := ⟨_, rfl⟩
  obtain ⟨C, hC⟩ : ∃ C : ByteArray, C = ⟨(s.data.toList.drop (ixP s.data.toList + 1)).toArray⟩ := ⟨_, rfl⟩
  have hAl : A.data.toList = s.data.toList.take (ixP s.data.toList) := by rw [hA]
  have hCl : C.data.toList = s.data.toList.drop (ixP s.data.toList + 1) := by rw [hC]
  have hAs : A.size ≤ s.size := by rw [← hll, Lib.size_eq, hAl]; exact List.length_take_le' _ _
  have hCs : C.size ≤ s.size := by rw [← hll, Lib.size_eq, hCl, List.length_drop]; omega
  obtain ⟨U, hU⟩ : ∃ U : ByteArray, U = ⟨(unsign A.data.toList).toArray⟩ := ⟨_, rfl⟩
  obtain ⟨b, hb⟩ : ∃ b, b = decide (A.data.toList.head? = some 45) := ⟨_, rfl⟩
  have hUl : U.data.toList = unsign A.data.toList := by rw [hU]
  have hUs : U.size ≤ A.size := by
    rw [Lib.size_eq, hUl, Lib.size_eq, unsign]
    split
    · rw [List.length_drop]; omega
    · omega
  obtain ⟨x, hx⟩ : ∃ x, x = rdN U := ⟨_, rfl⟩
  obtain ⟨y, hy⟩ : ∃ y, y = rdN C := ⟨_, rfl⟩
  have hxr := rdO_bound U.data.toList
  have hyr := rdO_bound C.data.toList
  rw [show (rdO U.data.toList).getD 0 = x from hx.symm] at hxr
  rw [show (rdO C.data.toList).getD 0 = y from hy.symm] at hyr
  obtain ⟨x0, x1⟩ := hxr
  obtain ⟨y0, y1⟩ := hyr
  have hn : fixI_ s.data.toList = glue b x y := by rw [fixI_, hb, hx, hy, rdN, rdN, hUl, hAl, hCl]
  have CUT := fun w => stringsCutPlus_any s w (by omega)
  rw [← hA, ← hC] at CUT
  have MIN := fun w => stringsCutMinus_any A w (by omega)
  rw [← hU, ← hb] at MIN
  have RU := fun w h => implReadDec_any U w (by omega) h
  rw [← hx] at RU
  have RC := fun w h => implReadDec_any C w (by omega) h
  rw [← hy] at RC
  have H1 := Lib.hid CUT
  have H2 := Lib.hid MIN
  have H3 := Lib.hid RU
  have H4 := Lib.hid RC
  have HL := Lib.hid hL
  have hsl : s.toList = s.data.toList := Lib.toList_data s
  obtain ⟨T, hT⟩ : ∃ T : ByteArray, T = ⟨(showL (glue b x y)).toArray⟩ := ⟨_, rfl⟩
  have SH := fun w h => implShowFix_any (glue b x y) w h
  rw [← hT] at SH
  have H5 := Lib.hid SH
  have hTl : T.toList = showL (glue b x y) := by rw [Lib.toList_data, hT]
  have hfin : ((T.toList == s.toList) = true ∧ fxN s = glue b x y ∧ fxB s = true) ∨ ((T.toList == s.toList) = false ∧ fxN s = 0 ∧ fxB s = false) := by
    rw [hTl, hsl]
    by_cases h : showL (fixI_ s.data.toList) = s.data.toList
    · have := fx_some (rfO_yes h)
      rw [hn] at this h
      exact Or.inl ⟨by rw [h]; simp, this⟩
    · have := fx_none (rfO_no h)
      rw [hn] at h
      exact Or.inr ⟨by simpa using h, this⟩
  clear hA hC hAl hCl hU hUl hx hy hn CUT MIN RU RC hL hsl hT SH hTl hll hb
  rcases hfin with ⟨htest, hr⟩ | ⟨htest, hr⟩
  all_goals
    have HR := Lib.hid hr
    clear hr
    cases b
    all_goals
      simp only [glue, Bool.false_eq_true, if_false, if_true] at HR H5
      go_enter Tryd.func22, Tryd.ntmps22
      go_wp2_with fail
      refine (H1.out _).mono ?_
      rintro e w1 ⟨rfl, hb1⟩
      go_wp2_with fail
      refine (H2.out _).mono ?_
      rintro e w2 ⟨rfl, hb2'⟩
      have hb2 := hb1.trans (hb2'.mono hb1.size)
      clear hb2'
      go_wp2_with fail
      refine (H3.out _ (HL.out.below hb2)).mono ?_
      rintro e w3 ⟨rfl, hb3'⟩
      have hb3 := hb2.trans (hb3'.mono hb2.size)
      clear hb3'
      go_wp2_with fail
      refine (H4.out _ (HL.out.below hb3)).mono ?_
      rintro e w4 ⟨rfl, hb4'⟩
      have hb4 := hb3.trans (hb4'.mono hb3.size)
      clear hb4'
      go_wp2_with fail
      refine (H5.out _ (HL.out.below hb4).t).mono ?_
      rintro e w5 ⟨rfl, hb5'⟩
      have hb5 := hb4.trans (hb5'.mono hb4.size)
      clear hb5'
      go_wp2_with fail
      go_ret2
      exact ⟨by rw [HR.out.1, HR.out.2] <;> rfl, hb5⟩
theorem ext_size (t : ByteArray) (i j : Nat) : (t.extract i j).size ≤ t.size := by
  rw [Lib.size_eq, Lib.extract_data, Lib.size_eq]
  simp
  omega
set_option maxRecDepth 100000 in
set_option maxHeartbeats 1600000 in
theorem specReadFix_any (s : ByteArray) (w : World) (hs : s.size ≤ 281474976710656) :
    Calls Tryd.prog 30 #[.string s] w fun e w' => e = .returned (.tuple #[.int .i64 (fxN s), .bool (fxB s)]) ∧ Below w.heap.size w w' := by
  have hll : s.data.toList.length = s.size := by simp
  by_cases h0 : 0 < s.size
  · by_cases hm : s[0].toNat = 45
    · have t45 : ((s[0].toNat : Int) == 45) = true := by simp; omega
      have hh : s.data.toList.head? = some 45 := (head45 h0).2 hm
      have hu : unsign s.data.toList = s.data.toList.drop 1 := if_pos hh
      have htl : (s.extract 1 s.size).data.toList = unsign s.data.toList := by
        rw [hu, Lib.extract_data, List.take_of_length_le (by rw [List.length_drop, hll]; omega)]
      have hts : (s.extract 1 s.size).size + 1 = s.size := by rw [Lib.size_eq, htl, hu, List.length_drop, hll]; omega
      have HTL := Lib.hid htl
      have HSG := Lib.hid (show decide ((unsign s.data.toList).length < s.data.toList.length) = true by rw [hu, List.length_drop, hll]; simp; omega)
      have HTS := Lib.hid (show (s.extract 1 s.size).size ≤ 281474976710656 by omega)
      clear hu htl hh hm hll
      go_enter Tryd.func30, Tryd.ntmps30
      go_wp2_with fail
      generalize s.extract 1 s.size = T at *
      have hlt2 : T.size < s.size := by omega
      go_loop [5] (fun k => ∃ j : Nat, j ≤ T.size ∧ Hid (∀ i, i < j → T.data.toList.getD i 0 ≠ 43) ∧ k = .int .i64 j) (fun k => T.size - (intOf k).toNat)
      case atStart => exact ⟨0, Nat.zero_le _, Lib.hid (fun i hi => absurd hi (Nat.not_lt_zero _)), rfl⟩
      case round =>
        obtain ⟨j, hj, hno, rfl⟩ := hrel
        by_cases hlt : j < T.size
        · have hg := str_getD T j hlt
          have HG := Lib.hid hg
          clear hg
          have hb8 : (T[j].toNat : Int) < 256 := by have := T[j].toNat_lt; omega
          by_cases h43 : T[j].toNat = 43
          · have t43 : ((T[j].toNat : Int) != 43) = false := by simp; omega
            have kl : ((j : Int) == (T.size : Int)) = false := by rw [beq_eq_false_iff_ne]; omega
            have hix : ixP T.data.toList = j := ixP_at (by rw [← Lib.size_eq]; exact hlt) (by rw [HG.out]; exact UInt8.toNat_inj.1 h43) hno.out
            obtain ⟨a, ha⟩ : ∃ a, a = rsN (T.extract 0 j) := ⟨_, rfl⟩
            obtain ⟨x, hx⟩ : ∃ x, x = rsB (T.extract 0 j) := ⟨_, rfl⟩
            obtain ⟨b, hb⟩ : ∃ b, b = rsN (T.extract (j + 1) T.size) := ⟨_, rfl⟩
            obtain ⟨y, hy⟩ : ∃ y, y = rsB (T.extract (j + 1) T.size) := ⟨_, rfl⟩
            have RA := fun w => specReadDec_any (T.extract 0 j) w (Nat.le_trans (ext_size _ _ _) HTS.out)
            have RB := fun w => specReadDec_any (T.extract (j + 1) T.size) w (Nat.le_trans (ext_size _ _ _) HTS.out)
            rw [← ha, ← hx] at RA
            rw [← hb, ← hy] at RB
            have H1 := Lib.hid RA
            have H2 := Lib.hid RB
            clear RA RB
            have q1 : (T.extract 0 j).data.toList = T.data.toList.take j := by rw [Lib.extract_data]; simp
            have e1 := q1.trans (congrArg (List.take j) HTL.out)
            clear q1
            have q2 : (T.extract (j + 1) T.size).data.toList = T.data.toList.drop (j + 1) := by
              rw [Lib.extract_data, List.take_of_length_le (by rw [List.length_drop, ← Lib.size_eq]; omega)]
            have e2 := q2.trans (congrArg (List.drop (j + 1)) HTL.out)
            clear q2
            have hix := (congrArg ixP HTL.out).symm.trans hix
            have ha' : (rdO ((unsign s.data.toList).take j)).getD 0 = a := by rw [ha, rsN, e1]
            have hx' : (rdO ((unsign s.data.toList).take j)).isSome = x := by rw [hx, rsB, e1]
            have hb' : (rdO ((unsign s.data.toList).drop (j + 1))).getD 0 = b := by rw [hb, rsN, e2]
            have hy' : (rdO ((unsign s.data.toList).drop (j + 1))).isSome = y := by rw [hy, rsB, e2]
            have hbad := sp_bad hix
            have hgood := fun h => sp_good hix h (n := glue true a b) (by rw [HSG.out, ha', hb'])
            rw [ha', hx', hb', hy'] at hbad hgood
            obtain ⟨a0, a1⟩ := rdO_bound ((unsign s.data.toList).take j)
            obtain ⟨b0, b1⟩ := rdO_bound ((unsign s.data.toList).drop (j + 1))
            rw [ha'] at a0 a1
            rw [hb'] at b0 b1
            clear ha hx hb hy ha' hx' hb' hy' e1 e2 hix h43
            by_cases hc : x = true ∧ y = true ∧ 0 ≤ a ∧ 0 ≤ b ∧ a ≤ 32767 ∧ b < 65536
            · have hgd := hgood hc
              obtain ⟨rfl, rfl, c1, c2, c3, c4⟩ := hc
              have d1 : decide (a < 0) = false := by simp; omega
              have d2 : decide (b < 0) = false := by simp; omega
              have d3 : decide (32767 < a) = false := by simp; omega
              have d4 : decide (65536 ≤ b) = false := by simp; omega
              clear hbad hgood
              have SH := fun w => specShowFix_any (glue true a b) w
              obtain ⟨T5, hT5⟩ : ∃ T5 : ByteArray, T5 = ⟨(showL (glue true a b)).toArray⟩ := ⟨_, rfl⟩
              rw [← hT5] at SH
              have hTl : T5.toList = showL (glue true a b) := by rw [Lib.toList_data, hT5]
              have hfin : ((T5.toList == s.toList) = true ∧ fxN s = glue true a b ∧ fxB s = true) ∨ ((T5.toList == s.toList) = false ∧ fxN s = 0 ∧ fxB s = false) := by
                rw [hTl, Lib.toList_data s]
                by_cases h : showL (glue true a b) = s.data.toList
                · exact Or.inl ⟨by rw [h]; simp, fx_some (hgd.1 h)⟩
                · exact Or.inr ⟨by simpa using h, fx_none (hgd.2 h)⟩
              simp only [glue, Bool.false_eq_true, if_false, if_true] at SH hfin
              have H3 := Lib.hid SH
              clear SH hT5 hTl hgd
              rcases hfin with ⟨htest, hr⟩ | ⟨htest, hr⟩
              all_goals
                have HR := Lib.hid hr
                clear hr
                go_wp2_with fail
                refine (H1.out _).mono ?_
                rintro e w1 ⟨rfl, hb1⟩
                go_wp2_with fail
                refine (H2.out _).mono ?_
                rintro e w2 ⟨rfl, hb2'⟩
                have hb2 := hb1.trans (hb2'.mono hb1.size)
                clear hb2'
                go_wp2_with fail
                refine (H3.out _).mono ?_
                rintro e w3 ⟨rfl, hb3'⟩
                have hb3 := hb2.trans (hb3'.mono hb2.size)
                clear hb3'
                go_wp2_with fail
                go_ret2
                exact ⟨by rw [HR.out.1, HR.out.2] <;> rfl, hb3⟩
            · have HR := Lib.hid (fx_none (hbad hc))
              have hcs : x = false ∨ (x = true ∧ y = false) ∨ (x = true ∧ y = true ∧ a < 0) ∨ (x = true ∧ y = true ∧ 0 ≤ a ∧ b < 0) ∨ (x = true ∧ y = true ∧ 0 ≤ a ∧ 0 ≤ b ∧ 32767 < a) ∨ (x = true ∧ y = true ∧ 0 ≤ a ∧ 0 ≤ b ∧ a ≤ 32767 ∧ 65536 ≤ b) := by
                cases x
                · exact Or.inl rfl
                · cases y
                  · exact Or.inr (Or.inl ⟨rfl, rfl⟩)
                  · simp only [true_and] at hc ⊢
                    simp only [Bool.true_eq_false, false_or, false_and]
                    omega
              clear hbad hgood hc
              rcases hcs with rfl | ⟨rfl, rfl⟩ | ⟨rfl, rfl, c1⟩ | ⟨rfl, rfl, c1, c2⟩ | ⟨rfl, rfl, c1, c2, c3⟩ | ⟨rfl, rfl, c1, c2, c3, c4⟩
              all_goals
                try have d1 : decide (a < 0) = false := by simp; omega
                try have d1 : decide (a < 0) = true := by simp; omega
                try have d2 : decide (b < 0) = false := by simp; omega
                try have d2 : decide (b < 0) = true := by simp; omega
                try have d3 : decide (32767 < a) = false := by simp; omega
                try have d3 : decide (32767 < a) = true := by simp; omega
                try have d4 : decide (65536 ≤ b) = false := by simp; omega
                try have d4 : decide (65536 ≤ b) = true := by simp; omega
                go_wp2_with fail
                refine (H1.out _).mono ?_
                rintro e w1 ⟨rfl, hb1⟩
                go_wp2_with fail
                refine (H2.out _).mono ?_
                rintro e w2 ⟨rfl, hb2'⟩
                have hb2 := hb1.trans (hb2'.mono hb1.size)
                clear hb2'
                go_wp2_with fail
                go_ret2
                exact ⟨by rw [HR.out.1, HR.out.2] <;> rfl, hb2⟩
          · have t43 : ((T[j].toNat : Int) != 43) = true := by simp; omega
            have hnx : T.data.toList.getD j 0 ≠ 43 := by rw [HG.out]; exact fun h => h43 (by rw [h]; rfl)
            have HNX := Lib.hid hnx
            clear h43 hnx
            go_wp2_with fail
            go_round
            case rel => exact ⟨j + 1, by omega, Lib.hid (fun i hi => by
              by_cases e : i = j
              · rw [e]; exact HNX.out
              · exact hno.out i (by omega)), by go_num⟩
            case measure => simp [intOf]; omega
        · obtain rfl : j = T.size := by omega
          have hix : ixP T.data.toList = T.data.toList.length := ixP_none (by rw [← Lib.size_eq]; exact hno.out)
          have hix := (congrArg ixP HTL.out).symm.trans (hix.trans (congrArg List.length HTL.out))
          have HR := Lib.hid (fx_none (s := s) (sp_none (by omega)))
          clear hix
          go_wp2_with fail
          go_ret2
          exact ⟨by rw [HR.out.1, HR.out.2] <;> rfl, Below.refl _ _⟩
    · have t45 : ((s[0].toNat : Int) == 45) = false := by simp; omega
      have hh : ¬ s.data.toList.head? = some 45 := fun h => hm ((head45 h0).1 h)
      have hu : unsign s.data.toList = s.data.toList := if_neg hh
      have HTL := Lib.hid hu.symm
      have HSG := Lib.hid (show decide ((unsign s.data.toList).length < s.data.toList.length) = false by rw [hu]; simp)
      have HTS := Lib.hid hs
      clear hu hh hm hll
      go_enter Tryd.func30, Tryd.ntmps30
      go_wp2_with fail
      go_loop [5] (fun k => ∃ j : Nat, j ≤ s.size ∧ Hid (∀ i, i < j → s.data.toList.getD i 0 ≠ 43) ∧ k = .int .i64 j) (fun k => s.size - (intOf k).toNat)
      case atStart => exact ⟨0, Nat.zero_le _, Lib.hid (fun i hi => absurd hi (Nat.not_lt_zero _)), rfl⟩
      case round =>
        obtain ⟨j, hj, hno, rfl⟩ := hrel
        by_cases hlt : j < s.size
        · have hg := str_getD s j hlt
          have HG := Lib.hid hg
          clear hg
          have hb8 : (s[j].toNat : Int) < 256 := by have := s[j].toNat_lt; omega
          by_cases h43 : s[j].toNat = 43
          · have t43 : ((s[j].toNat : Int) != 43) = false := by simp; omega
            have kl : ((j : Int) == (s.size : Int)) = false := by rw [beq_eq_false_iff_ne]; omega
            have hix : ixP s.data.toList = j := ixP_at (by rw [← Lib.size_eq]; exact hlt) (by rw [HG.out]; exact UInt8.toNat_inj.1 h43) hno.out
            obtain ⟨a, ha⟩ : ∃ a, a = rsN (s.extract 0 j) := ⟨_, rfl⟩
            obtain ⟨x, hx⟩ : ∃ x, x = rsB (s.extract 0 j) := ⟨_, rfl⟩
            obtain ⟨b, hb⟩ : ∃ b, b = rsN (s.extract (j + 1) s.size) := ⟨_, rfl⟩
            obtain ⟨y, hy⟩ : ∃ y, y = rsB (s.extract (j + 1) s.size) := ⟨_, rfl⟩
            have RA := fun w => specReadDec_any (s.extract 0 j) w (Nat.le_trans (ext_size _ _ _) HTS.out)
            have RB := fun w => specReadDec_any (s.extract (j + 1) s.size) w (Nat.le_trans (ext_size _ _ _) HTS.out)
            rw [← ha, ← hx] at RA
            rw [← hb, ← hy] at RB
            have H1 := Lib.hid RA
            have H2 := Lib.hid RB
            clear RA RB
            have q1 : (s.extract 0 j).data.toList = s.data.toList.take j := by rw [Lib.extract_data]; simp
            have e1 := q1.trans (congrArg (List.take j) HTL.out)
            clear q1
            have q2 : (s.extract (j + 1) s.size).data.toList = s.data.toList.drop (j + 1) := by
              rw [Lib.extract_data, List.take_of_length_le (by rw [List.length_drop, ← Lib.size_eq]; omega)]
            have e2 := q2.trans (congrArg (List.drop (j + 1)) HTL.out)
            clear q2
            have hix := (congrArg ixP HTL.out).symm.trans hix
            have ha' : (rdO ((unsign s.data.toList).take j)).getD 0 = a := by rw [ha, rsN, e1]
            have hx' : (rdO ((unsign s.data.toList).take j)).isSome = x := by rw [hx, rsB, e1]
            have hb' : (rdO ((unsign s.data.toList).drop (j + 1))).getD 0 = b := by rw [hb, rsN, e2]
            have hy' : (rdO ((unsign s.data.toList).drop (j + 1))).isSome = y := by rw [hy, rsB, e2]
            have hbad := sp_bad hix
            have hgood := fun h => sp_good hix h (n := glue false a b) (by rw [HSG.out, ha', hb'])
            rw [ha', hx', hb', hy'] at hbad hgood
            obtain ⟨a0, a1⟩ := rdO_bound ((unsign s.data.toList).take j)
            obtain ⟨b0, b1⟩ := rdO_bound ((unsign s.data.toList).drop (j + 1))
            rw [ha'] at a0 a1
            rw [hb'] at b0 b1
            clear ha hx hb hy ha' hx' hb' hy' e1 e2 hix h43
            by_cases hc : x = true ∧ y = true ∧ 0 ≤ a ∧ 0 ≤ b ∧ a ≤ 32767 ∧ b < 65536
            · have hgd := hgood hc
              obtain ⟨rfl, rfl, c1, c2, c3, c4⟩ := hc
              have d1 : decide (a < 0) = false := by simp; omega
              have d2 : decide (b < 0) = false := by simp; omega
              have d3 : decide (32767 < a) = false := by simp; omega
              have d4 : decide (65536 ≤ b) = false := by simp; omega
              clear hbad hgood
              have SH := fun w => specShowFix_any (glue false a b) w
              obtain ⟨T5, hT5⟩ : ∃ T5 : ByteArray, T5 = ⟨(showL (glue false a b)).toArray⟩ := ⟨_, rfl⟩
              rw [← hT5] at SH
              have hTl : T5.toList = showL (glue false a b) := by rw [Lib.toList_data, hT5]
              have hfin : ((T5.toList == s.toList) = true ∧ fxN s = glue false a b ∧ fxB s = true) ∨ ((T5.toList == s.toList) = false ∧ fxN s = 0 ∧ fxB s = false) := by
                rw [hTl, Lib.toList_data s]
                by_cases h : showL (glue false a b) = s.data.toList
                · exact Or.inl ⟨by rw [h]; simp, fx_some (hgd.1 h)⟩
                · exact Or.inr ⟨by simpa using h, fx_none (hgd.2 h)⟩
              simp only [glue, Bool.false_eq_true, if_false, if_true] at SH hfin
              have H3 := Lib.hid SH
              clear SH hT5 hTl hgd
              rcases hfin with ⟨htest, hr⟩ | ⟨htest, hr⟩
              all_goals
                have HR := Lib.hid hr
                clear hr
                go_wp2_with fail
                refine (H1.out _).mono ?_
                rintro e w1 ⟨rfl, hb1⟩
                go_wp2_with fail
                refine (H2.out _).mono ?_
                rintro e w2 ⟨rfl, hb2'⟩
                have hb2 := hb1.trans (hb2'.mono hb1.size)
                clear hb2'
                go_wp2_with fail
                refine (H3.out _).mono ?_
                rintro e w3 ⟨rfl, hb3'⟩
                have hb3 := hb2.trans (hb3'.mono hb2.size)
                clear hb3'
                go_wp2_with fail
                go_ret2
                exact ⟨by rw [HR.out.1, HR.out.2] <;> rfl, hb3⟩
            · have HR := Lib.hid (fx_none (hbad hc))
              have hcs : x = false ∨ (x = true ∧ y = false) ∨ (x = true ∧ y = true ∧ a < 0) ∨ (x = true ∧ y = true ∧ 0 ≤ a ∧ b < 0) ∨ (x = true ∧ y = true ∧ 0 ≤ a ∧ 0 ≤ b ∧ 32767 < a) ∨ (x = true ∧ y = true ∧ 0 ≤ a ∧ 0 ≤ b ∧ a ≤ 32767 ∧ 65536 ≤ b) := by
                cases x
                · exact Or.inl rfl
                · cases y
                  · exact Or.inr (Or.inl ⟨rfl, rfl⟩)
                  · simp only [true_and] at hc ⊢
                    simp only [Bool.true_eq_false, false_or, false_and]
                    omega
              clear hbad hgood hc
              rcases hcs with rfl | ⟨rfl, rfl⟩ | ⟨rfl, rfl, c1⟩ | ⟨rfl, rfl, c1, c2⟩ | ⟨rfl, rfl, c1, c2, c3⟩ | ⟨rfl, rfl, c1, c2, c3, c4⟩
              all_goals
                try have d1 : decide (a < 0) = false := by simp; omega
                try have d1 : decide (a < 0) = true := by simp; omega
                try have d2 : decide (b < 0) = false := by simp; omega
                try have d2 : decide (b < 0) = true := by simp; omega
                try have d3 : decide (32767 < a) = false := by simp; omega
                try have d3 : decide (32767 < a) = true := by simp; omega
                try have d4 : decide (65536 ≤ b) = false := by simp; omega
                try have d4 : decide (65536 ≤ b) = true := by simp; omega
                go_wp2_with fail
                refine (H1.out _).mono ?_
                rintro e w1 ⟨rfl, hb1⟩
                go_wp2_with fail
                refine (H2.out _).mono ?_
                rintro e w2 ⟨rfl, hb2'⟩
                have hb2 := hb1.trans (hb2'.mono hb1.size)
                clear hb2'
                go_wp2_with fail
                go_ret2
                exact ⟨by rw [HR.out.1, HR.out.2] <;> rfl, hb2⟩
          · have t43 : ((s[j].toNat : Int) != 43) = true := by simp; omega
            have hnx : s.data.toList.getD j 0 ≠ 43 := by rw [HG.out]; exact fun h => h43 (by rw [h]; rfl)
            have HNX := Lib.hid hnx
            clear h43 hnx
            go_wp2_with fail
            go_round
            case rel => exact ⟨j + 1, by omega, Lib.hid (fun i hi => by
              by_cases e : i = j
              · rw [e]; exact HNX.out
              · exact hno.out i (by omega)), by go_num⟩
            case measure => simp [intOf]; omega
        · obtain rfl : j = s.size := by omega
          have hix : ixP s.data.toList = s.data.toList.length := ixP_none (by rw [← Lib.size_eq]; exact hno.out)
          have hix := (congrArg ixP HTL.out).symm.trans (hix.trans (congrArg List.length HTL.out))
          have HR := Lib.hid (fx_none (s := s) (sp_none (by omega)))
          clear hix
          go_wp2_with fail
          go_ret2
          exact ⟨by rw [HR.out.1, HR.out.2] <;> rfl, Below.refl _ _⟩
  · have hz : s.size = 0 := by omega
    have hnil : s.data.toList = [] := List.eq_nil_of_length_eq_zero (by omega)
    have HR := Lib.hid (fx_none (s := s) (sp_none (by rw [hnil]; simp [unsign])))
    obtain rfl : s = ByteArray.empty := by
      apply ByteArray.ext
      apply Array.ext'
      exact hnil
    clear hnil h0 hll hs hz
    go_enter Tryd.func30, Tryd.ntmps30
    go_wp2_with fail
    go_loop [5] (fun k => k = .int .i64 0) (fun k => 0)
    case atStart => rfl
    case round =>
      subst hrel
      go_wp2_with fail
      go_ret2
      exact ⟨by rw [HR.out.1, HR.out.2] <;> rfl, Below.refl _ _⟩

theorem lawReadFix (s : ByteArray) (w : World) (hm : s.size ≤ maxLen) (hL : LaidW w) :
    Calls Tryd.prog 11 #[.string s] w fun e w' => e = .returned (.bool true) ∧ Below w.heap.size w w' := by
  have HL := Lib.hid hL
  clear hL
  unfold maxLen at hm
  by_cases hbig : 1048576 < s.size
  · have hd : decide (1048576 < (s.size : Int)) = true := by simp; omega
    go_enter Tryd.func11, Tryd.ntmps11
    go_wp2_with fail
    go_ret
    exact ⟨rfl, Below.refl _ _⟩
  have hd : decide (1048576 < (s.size : Int)) = false := by simp; omega
  have hs : s.size ≤ 281474976710656 := by omega
  go_enter Tryd.func11, Tryd.ntmps11
  go_wp2_with fail
  refine (specReadFix_any s _ hs).mono ?_
  rintro e w1 ⟨rfl, hb1⟩
  go_wp2_with fail
  refine (implReadFix_any s _ hs (HL.out.below hb1)).mono ?_
  rintro e w2 ⟨rfl, hb2⟩
  go_wp2_with fail
  go_ret
  exact ⟨rfl, hb1.trans (hb2.mono hb1.size)⟩
end Go.Proofs.YthficfeiomddmaaDoor
