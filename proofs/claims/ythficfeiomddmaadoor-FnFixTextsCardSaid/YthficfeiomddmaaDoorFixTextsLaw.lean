/-
  The law on the texts of numbers with a point.
-/
import Derived.Test.YthficfeiomddmaaDoorDrawFix
import Derived.Test.YthficfeiomddmaaDoorLaws
namespace Go.Proofs.YthficfeiomddmaaDoor
open Go.RowKit
set_option linter.unusedVariables false

theorem fx_show {n : Int} (h0 : -2147483647 ≤ n) (h1 : n ≤ 2147483647) : fxN ⟨(showL n).toArray⟩ = n ∧ fxB ⟨(showL n).toArray⟩ = true :=
  fx_some (s := ⟨(showL n).toArray⟩) (rfO_of h0 h1 rfl)
theorem fx_empty : fxB ⟨#[]⟩ = false := (fx_none (s := ⟨#[]⟩) (rfO_not fun n h0 h1 e => by
  have h : showL n ≠ [] := by
    rw [showL_in h0 h1, showP]
    simp
  exact h e)).2
theorem show_empty {n : Int} (h0 : -2147483647 ≤ n) (h1 : n ≤ 2147483647) : (⟨(showL n).toArray⟩ : ByteArray).toList.isEmpty = false := by
  rw [Lib.toList_data]
  show (showL n).isEmpty = false
  rw [showL_in h0 h1, showP]
  simp

set_option maxRecDepth 100000 in
theorem lawFixTexts_small (w : World) (p : Option Addr) (cap : Nat) (bs : List UInt8) (hc : CodeIn w.heap.size w p bs) (hW : LaidW w) :
    Calls Tryd.prog 4 #[.slice p bs.length cap] w fun e w' => e = .returned (.bool true) ∧ Below w.heap.size w w' := by
  have HC := Lib.hid hc
  have HW := Lib.hid hW
  clear hc hW
  go_enter Tryd.func4, Tryd.ntmps4
  go_wp2_with fail
  refine (big_no p cap bs HC.out.room _).mono ?_
  rintro e w' ⟨rfl, rfl⟩
  go_wp2_with fail
  refine (drawShowFix_e _ p cap bs HC.out).mono ?_
  rintro e w1 ⟨n, rfl, ⟨hn0, hn1⟩, hw1⟩
  obtain ⟨S, hS⟩ : ∃ S : ByteArray, S = ⟨(showL n).toArray⟩ := ⟨_, rfl⟩
  have hSs : S.size ≤ 30 := by rw [hS]; exact showL_length n
  have h1 := Lib.hid (fun w h => implShowFix_any n w h)
  rw [← hS] at h1
  obtain ⟨m, hm⟩ : ∃ m, fxN S = m := ⟨_, rfl⟩
  obtain ⟨is, his⟩ : ∃ is, fxB S = is := ⟨_, rfl⟩
  have h2 := Lib.hid (fun w h => implReadFix_any S w (by omega) h)
  rw [hm, his] at h2
  have hcase : (okB n = true ∧ m = n ∧ is = true ∧ S.toList.isEmpty = false) ∨ (okB n = false ∧ is = false ∧ S = ⟨#[]⟩) := by
    by_cases hr : -2147483647 ≤ n ∧ n ≤ 2147483647
    · have := fx_show hr.1 hr.2
      rw [← hS, hm, his] at this
      refine Or.inl ⟨okB_yes hr.1 hr.2, this.1, this.2, ?_⟩
      rw [hS]
      exact show_empty hr.1 hr.2
    · have e : S = ⟨#[]⟩ := by rw [hS, showL_out (by omega)]
      refine Or.inr ⟨okB_no (by omega), ?_, e⟩
      rw [← his, e]
      exact fx_empty
  clear hS hm his
  go_wp2_with fail
  refine (h1.out _ (HW.out.below hw1).t).mono ?_
  rintro e w2 ⟨rfl, hw2'⟩
  have hw2 := hw1.trans (hw2'.mono hw1.size)
  clear hw2'
  go_wp2_with fail
  refine (h2.out _ (HW.out.below hw2)).mono ?_
  rintro e w3 ⟨rfl, hw3'⟩
  have hw3 := hw2.trans (hw3'.mono hw2.size)
  clear hw3'
  go_wp2_with fail
  refine (drawReadFix_e _ p cap bs ((HC.out.below hw3).le hw3.size)).mono ?_
  rintro e w4 ⟨T, rfl, hTs, hw4'⟩
  have hw4 := hw3.trans (hw4'.mono hw3.size)
  clear hw4'
  obtain ⟨k, hk⟩ : ∃ k, fxN T = k := ⟨_, rfl⟩
  obtain ⟨fine, hfine⟩ : ∃ fine, fxB T = fine := ⟨_, rfl⟩
  have h3 := Lib.hid (fun w h => implReadFix_any T w (by omega) h)
  rw [hk, hfine] at h3
  obtain ⟨K, hK⟩ : ∃ K : ByteArray, K = ⟨(showL k).toArray⟩ := ⟨_, rfl⟩
  have h4 := Lib.hid (fun w h => implShowFix_any k w h)
  rw [← hK] at h4
  have hK2 : fine = true → (K.toList == T.toList) = true := fun hf => by
    rw [← hfine] at hf
    cases hr : rfO T.data.toList with
    | none => rw [(fx_none hr).2] at hf; cases hf
    | some x =>
      have h5 := (fx_some hr).1
      rw [hk] at h5
      rw [hK, Lib.toList_data, Lib.toList_data T]
      show (showL k == T.data.toList) = true
      rw [h5, (rfO_out hr).1]
      simp
  have HK2 := Lib.hid hK2
  clear hk hfine hK hK2
  go_wp2_with fail
  refine (h3.out _ (HW.out.below hw4)).mono ?_
  rintro e w5 ⟨rfl, hw5'⟩
  have hw5 := hw4.trans (hw5'.mono hw4.size)
  clear hw5'
  rcases hcase with ⟨hok, rfl, rfl, hse⟩ | ⟨hok, rfl, rfl⟩
  all_goals
    go_wp2_with fail
    refine (specFixOk_any _ _).mono ?_
    rintro e w6 ⟨rfl, rfl⟩
    rw [hok]
    cases fine
    · go_wp2_with fail
      go_ret
      exact ⟨rfl, hw5⟩
    · have HT := HK2.out rfl
      go_wp2_with fail
      refine (h4.out _ (HW.out.below hw5).t).mono ?_
      rintro e w7 ⟨rfl, hw7'⟩
      have hw7 := hw5.trans (hw7'.mono hw5.size)
      clear hw7'
      go_wp2_with fail
      go_ret
      exact ⟨rfl, hw7⟩

set_option maxRecDepth 100000 in
theorem lawFixTexts_big (w : World) (a : Option Addr) (len cap : Nat) (hm : len ≤ 9223372036854775807) (hbig : 1048576 < len) :
    Calls Tryd.prog 4 #[.slice a len cap] w fun e w' => e = .returned (.bool true) ∧ Below w.heap.size w w' := by
  go_enter Tryd.func4, Tryd.ntmps4
  go_wp2_with fail
  refine (big_yes a len cap hbig hm _).mono ?_
  rintro e w' ⟨rfl, rfl⟩
  go_wp2_with fail
  go_ret
  exact ⟨rfl, Below.refl _ _⟩
theorem lawFixTexts (w : World) (a : Option Addr) (len cap : Nat) (hm : len ≤ 9223372036854775807) (hW : LaidW w)
    (hb : ∃ bs : List UInt8, bs.length = len ∧ ∀ j (hj : j < bs.length), ∃ b o, a = some ⟨b, o, none⟩ ∧ b < w.heap.size ∧ w.cell? ⟨b, o + j, none⟩ = some (.int .u8 (bs[j].toNat : Int))) :
    Calls Tryd.prog 4 #[.slice a len cap] w fun e w' => e = .returned (.bool true) ∧ Below w.heap.size w w' :=
  law_of _ w a len cap hm hb (lawFixTexts_big w a len cap hm) (fun bs hc => lawFixTexts_small w a cap bs hc hW)
end Go.Proofs.YthficfeiomddmaaDoor
