/-
  The text of a plan: the model's.
-/
import Derived.Test.YtikjhpljaanakaaDoorShowM
import Derived.Test.YtikjhpljaanakaaDoorDec
import Derived.Test.YtikjhpljaanakaaDoorIns
namespace Go.Proofs.YtikjhpljaanakaaDoor
open Go.RowKit Go.Sort
set_option linter.unusedVariables false
set_option linter.unusedSimpArgs false

theorem bytes_data (a : ByteArray) : (⟨a.data.toList.toArray⟩ : ByteArray) = a := by cases a; rfl
/-- What comes of one round. -/
theorem show_first {xs : List dTwo} {X : dTwo} {A B : ByteArray} (h : 0 < xs.length) (hX : xs.getD 0 (0, 0) = X) (hA : A = insW X.1) (hB : B = ⟨(Lib.itoa X.2).toArray⟩) : ((⟨(showK xs 0).toArray⟩ : ByteArray) ++ A) ++ B = ⟨(showK xs 1).toArray⟩ := by
  rw [showK_first xs h, hX, showK_zero, hB]
  unfold wordL
  rw [← hA]
  have a := bytes_append [] A.data.toList
  rw [bytes_data] at a
  have b := bytes_append ([] ++ A.data.toList) (Lib.itoa X.2)
  refine (congrArg (· ++ _) a).trans (b.trans ?_)
  simp
theorem show_step {xs : List dTwo} {k : Nat} {X : dTwo} {A B : ByteArray} (h : k < xs.length) (hk : 0 < k) (hX : xs.getD k (0, 0) = X) (hA : A = insW X.1) (hB : B = ⟨(Lib.itoa X.2).toArray⟩) :
    (((⟨(showK xs k).toArray⟩ : ByteArray) ++ (⟨#[32]⟩ : ByteArray)) ++ A) ++ B = ⟨(showK xs (k + 1)).toArray⟩ := by
  rw [showK_step xs k h hk, hX, hB]
  unfold wordL
  rw [← hA]
  have a := bytes_append (showK xs k) [32]
  have b := bytes_append (showK xs k ++ [32]) A.data.toList
  rw [bytes_data] at b
  have c := bytes_append ((showK xs k ++ [32]) ++ A.data.toList) (Lib.itoa X.2)
  refine (congrArg (· ++ _) (congrArg (· ++ _) a)).trans ((congrArg (· ++ _) b).trans (c.trans ?_))
  simp
set_option maxRecDepth 100000 in
set_option maxHeartbeats 3200000 in
theorem specShowPlan_any (w : World) (a : Option Addr) (n c : Nat) (xs : List dTwo) (h : TwoIn w.heap.size w a n xs) (hw : Wide xs) :
    Calls Tryd.prog 5 #[.slice a n c] w fun e w' => e = .returned (.string ⟨(showK xs n).toArray⟩) ∧ Below w.heap.size w w' := by
  have hroom := h.room
  have H := Lib.hid h
  have HW := Lib.hid hw
  have HL := Lib.hid h.len
  clear h hw
  go_enter Tryd.func5, Tryd.ntmps5
  go_wp2_with fail
  go_loopw [3, 4] (fun s i wr => ∃ (k : Nat) (S : ByteArray), k ≤ n ∧ i = .int .i64 k ∧ s = .string S ∧ Hid (S = ⟨(showK xs k).toArray⟩) ∧ S.size ≤ 27 * k ∧ Below w.heap.size w wr) (fun _ i _ => n - (intOf i).toNat)
  case atStart => exact ⟨0, ⟨#[]⟩, Nat.zero_le _, rfl, rfl, Lib.hid rfl, Nat.le_refl _, Below.refl _ _⟩
  case round =>
    obtain ⟨k, S, hk, rfl, rfl, hS, hSl, hb⟩ := hrel
    by_cases hlt : k < n
    · obtain ⟨b, o, rfl, hbB, hc0, hc1⟩ := H.out.cells k hlt
      obtain ⟨X, hX⟩ : ∃ X, xs.getD k (0, 0) = X := ⟨_, rfl⟩
      have hwx := HW.out k (by rw [HL.out]; exact hlt)
      rw [hX] at hc0 hc1 hwx
      obtain ⟨X1, X2⟩ := X
      dsimp only at hc0 hc1 hwx
      obtain ⟨A, hA⟩ : ∃ A, A = insW X1 := ⟨_, rfl⟩
      obtain ⟨B, hB⟩ : ∃ B : ByteArray, B = ⟨(Lib.itoa X2).toArray⟩ := ⟨_, rfl⟩
      have hAl : A.size ≤ 5 := by rw [hA]; exact insW_size X1
      have hBl : B.size ≤ 21 := by rw [hB]; exact Lib.itoa_length_le X2 hwx.1 hwx.2
      have hsz := hb.size
      have c0 := (hb.cell (p := ⟨b, o + k * 2, none⟩) hbB).trans hc0
      have c1 := (hb.cell (p := ⟨b, o + k * 2 + 1, none⟩) hbB).trans hc1
      have HC1 := Lib.hid fun wx : World => hA ▸ specInsWord_any wx X1
      have HC2 := Lib.hid fun wx : World => hB ▸ specDec_any X2 wx hwx.1 hwx.2
      have HA := Lib.hid hA
      have HBB := Lib.hid hB
      have HX := Lib.hid hX
      have HBW := Lib.hid hb
      clear hA hB hX hwx hc0 hc1 hb
      by_cases hk0 : 0 < k
      · have gk : decide ((k : Int) > 0) = true := decide_eq_true (by omega)
        have hst : Hid (((S ++ (⟨#[32]⟩ : ByteArray)) ++ A) ++ B = ⟨(showK xs (k + 1)).toArray⟩) := Lib.hid (by rw [hS.out]; exact show_step (by rw [HL.out]; exact hlt) hk0 HX.out HA.out HBB.out)
        have hz : (⟨#[32]⟩ : ByteArray).size = 1 := rfl
        go_upto_region 7 with fail
        have k0 := cell_regrown c0
        have k1 := cell_regrown c1
        have cC := fun d os => Calls.regrown_of (w := wr) (d := d) (os := os) (HC1.out _)
        have cD := fun d os => Calls.regrown_of (w := wr) (d := d) (os := os) (HC2.out _)
        have CC := Lib.hid cC
        have CD := Lib.hid cD
        clear c0 c1 cC cD
        refine wp_region_quiet_below (by kernel_rfl) (by kernel_rfl) ?_
        repeat (go_big_quiet_step (with_reducible first | exact CC.out _ _ | exact CD.out _ _))
        refine wpQuiet_nil ?_
        intro _ hw'
        obtain ⟨⟨dq, osq⟩, hw''⟩ := hw'
        subst hw''
        have hwq := below_regrown wr dq osq
        generalize grow (redrawn wr dq) osq = w1 at hwq ⊢
        have HWQ := Lib.hid hwq
        clear hwq k0 k1
        go_wp2_with fail
        go_round
        case rel => exact ⟨k + 1, _, by omega, by go_num, rfl, hst, by simp only [ByteArray.size_append]; omega, HBW.out.trans (HWQ.out.mono hsz)⟩
        case measure => simp [intOf]; omega
      · have gk : decide ((k : Int) > 0) = false := decide_eq_false (by omega)
        have hst : Hid ((S ++ A) ++ B = ⟨(showK xs (k + 1)).toArray⟩) := Lib.hid (by
          have e0 : k = 0 := by omega
          have hxx := HX.out
          have hss := hS.out
          rw [e0] at hxx hss
          rw [hss, e0]
          exact show_first (by rw [HL.out]; omega) hxx HA.out HBB.out)
        go_upto_region 7 with fail
        have k0 := cell_regrown c0
        have k1 := cell_regrown c1
        have cC := fun d os => Calls.regrown_of (w := wr) (d := d) (os := os) (HC1.out _)
        have cD := fun d os => Calls.regrown_of (w := wr) (d := d) (os := os) (HC2.out _)
        have CC := Lib.hid cC
        have CD := Lib.hid cD
        clear c0 c1 cC cD
        refine wp_region_quiet_below (by kernel_rfl) (by kernel_rfl) ?_
        repeat (go_big_quiet_step (with_reducible first | exact CC.out _ _ | exact CD.out _ _))
        refine wpQuiet_nil ?_
        intro _ hw'
        obtain ⟨⟨dq, osq⟩, hw''⟩ := hw'
        subst hw''
        have hwq := below_regrown wr dq osq
        generalize grow (redrawn wr dq) osq = w1 at hwq ⊢
        have HWQ := Lib.hid hwq
        clear hwq k0 k1
        go_wp2_with fail
        go_round
        case rel => exact ⟨k + 1, _, by omega, by go_num, rfl, hst, by simp only [ByteArray.size_append]; omega, HBW.out.trans (HWQ.out.mono hsz)⟩
        case measure => simp [intOf]; omega
    · obtain rfl : k = n := by omega
      have HB := Lib.hid hb
      clear hb
      go_wp2_with fail
      go_ret
      exact ⟨congrArg (fun x => Ending.returned (.string x)) hS.out, HB.out⟩
end Go.Proofs.YtikjhpljaanakaaDoor
