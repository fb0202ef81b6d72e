/-
  The law on sums and products.
-/
import Derived.Test.YthficfeiomddmaaDoorDrawFix
import Derived.Test.YthficfeiomddmaaDoorLaws
import Derived.Deep.DeepCutAuto
namespace Go.Proofs.YthficfeiomddmaaDoor
open Go.RowKit
set_option linter.unusedVariables false

theorem addN_comm (a b : Int) : addN b a = addN a b ∧ addB b a = addB a b := by unfold addN addB; rw [Int.add_comm]; exact ⟨rfl, rfl⟩
theorem mulN_comm (a b : Int) : mulN b a = mulN a b ∧ mulB b a = mulB a b := by unfold mulN mulB; rw [Int.mul_comm]; exact ⟨rfl, rfl⟩
theorem okB_range {a : Int} (h : okB a = true) : -2147483647 ≤ a ∧ a ≤ 2147483647 := by
  unfold okB inB at h
  simpa using h
theorem sat_ok {a : Int} (h : okB a = true) : sat a = a := (sat_mid (okB_range h).1 (okB_range h).2).1
theorem okB_sat (x : Int) : okB (sat x) = true := okB_yes (sat_range x).1 (sat_range x).2
theorem mul_one_ok {a : Int} (h : okB a = true) : mulN a 65536 = a ∧ mulB a 65536 = false := by
  have h1 : sat 65536 = 65536 := rfl
  have hr := okB_range h
  unfold mulN mulB
  rw [h1, sat_ok h, Int.mul_ediv_cancel _ (by omega)]
  exact sat_mid hr.1 hr.2
theorem mul_zero_ok (a : Int) : mulN a 0 = 0 ∧ mulB a 0 = false := by
  have h1 : sat 0 = 0 := rfl
  unfold mulN mulB
  rw [h1, Int.mul_zero]
  exact ⟨rfl, rfl⟩
theorem sub_back {a b : Int} (ha : okB a = true) (hb : okB b = true) (h : addB a b = false) : subN (addN a b) b = a ∧ subB (addN a b) b = false := by
  have hx : addN a b = a + b := by
    unfold addB at h
    unfold addN
    rw [satB_false h, sat_ok ha, sat_ok hb]
  have hy : sat (addN a b) = addN a b := sat_ok (okB_sat _)
  have hr := okB_range ha
  unfold subN subB
  rw [hy, sat_ok hb, hx, show a + b - b = a by omega]
  exact sat_mid hr.1 hr.2
theorem relu_cases (a : Int) : 0 ≤ reluN a ∧ (reluN a = 0 ∨ reluN a = sat a) := by
  unfold reluN
  split
  · exact ⟨by omega, Or.inr rfl⟩
  · exact ⟨by omega, Or.inl rfl⟩
theorem neg_neg_sat (a : Int) : -sat (-sat a) = sat a := by
  have h := sat_range a
  rw [(sat_mid (x := -sat a) (by omega) (by omega)).1]
  omega
theorem okB_neg_sat (a : Int) : okB (-sat a) = true := by
  have h := sat_range a
  exact okB_yes (by omega) (by omega)

set_option maxRecDepth 100000 in
set_option maxHeartbeats 1600000 in
theorem lawFixed_small (w : World) (p : Option Addr) (cap : Nat) (bs : List UInt8) (hc : CodeIn w.heap.size w p bs) (hE : LaidE w) :
    Calls Tryd.prog 3 #[.slice p bs.length cap] w fun e w' => e = .returned (.bool true) ∧ Below w.heap.size w w' := by
  have HC := Lib.hid hc
  have HE := Lib.hid hE
  have hlt := hE.lt
  clear hc hE
  go_enter Tryd.func3, Tryd.ntmps3
  go_wp2_with fail
  refine (big_no p cap bs HC.out.room _).mono ?_
  rintro e w' ⟨rfl, rfl⟩
  go_wp2_with fail
  refine (drawFixAdd_e _ p cap bs HC.out).mono ?_
  rintro e w1 ⟨a, b, rfl, ⟨ha0, ha1⟩, ⟨hb0, hb1⟩, hw1⟩
  have ca := addN_comm a b
  have cm := mulN_comm a b
  have H2 := fun w h => implFixAdd_any b a w h
  rw [ca.1, ca.2] at H2
  have H4 := fun w h => implFixMul_any b a w h
  rw [cm.1, cm.2] at H4
  have H8 := fun w h => implFixMul_any a 0 w h
  rw [(mul_zero_ok a).1, (mul_zero_ok a).2] at H8
  have h2 := Lib.hid H2
  have h4 := Lib.hid H4
  have h8 := Lib.hid H8
  clear ca cm H2 H4 H8
  obtain ⟨X, hX⟩ : ∃ X, addN a b = X := ⟨_, rfl⟩
  obtain ⟨s, hs⟩ : ∃ s, addB a b = s := ⟨_, rfl⟩
  obtain ⟨M, hM⟩ : ∃ M, mulN a b = M := ⟨_, rfl⟩
  obtain ⟨u, hu⟩ : ∃ u, mulB a b = u := ⟨_, rfl⟩
  have h1 := Lib.hid (fun w h => implFixAdd_any a b w h)
  have h3 := Lib.hid (fun w h => implFixMul_any a b w h)
  rw [hX, hs] at h1 h2
  rw [hM, hu] at h3 h4
  obtain ⟨D, hD⟩ : ∃ D, subN X b = D := ⟨_, rfl⟩
  obtain ⟨v, hv⟩ : ∃ v, subB X b = v := ⟨_, rfl⟩
  have h5 := Lib.hid (fun w h => implFixSub_any X b w h)
  rw [hD, hv] at h5
  obtain ⟨O, hO⟩ : ∃ O, mulN a 65536 = O := ⟨_, rfl⟩
  obtain ⟨z, hz⟩ : ∃ z, mulB a 65536 = z := ⟨_, rfl⟩
  have h6 := Lib.hid (fun w h => implFixMul_any a 65536 w h)
  rw [hO, hz] at h6
  have fX : okB X = true := by rw [← hX]; exact okB_sat _
  have fM : okB M = true := by rw [← hM]; exact okB_sat _
  have FA := Lib.hid (fun h : okB a = true => mul_one_ok h)
  rw [hO, hz] at FA
  have FB := fun (h : okB a = true) (k : okB b = true) (l : addB a b = false) => sub_back h k l
  rw [hX, hs, hD, hv] at FB
  have FB' := Lib.hid FB
  have FS : s = true → X = 2147483647 ∨ X = -2147483647 := fun h => by rw [← hX]; rw [← hs] at h; exact satB_true h
  have FU : u = true → M = 2147483647 ∨ M = -2147483647 := fun h => by rw [← hM]; rw [← hu] at h; exact satB_true h
  have FS' := Lib.hid FS
  have FU' := Lib.hid FU
  clear hX hs hM hu hD hv hO hz FB FS FU
  go_wp2_with fail
  refine (h1.out _ (HE.out.below hlt hw1)).mono ?_
  rintro e w2 ⟨rfl, hw2'⟩
  have hw2 := hw1.trans (hw2'.mono hw1.size)
  clear hw2'
  go_wp2_with fail
  refine (h2.out _ (HE.out.below hlt hw2)).mono ?_
  rintro e w3 ⟨rfl, hw3'⟩
  have hw3 := hw2.trans (hw3'.mono hw2.size)
  clear hw3'
  go_wp2_with fail
  refine (h3.out _ (HE.out.below hlt hw3)).mono ?_
  rintro e w4 ⟨rfl, hw4'⟩
  have hw4 := hw3.trans (hw4'.mono hw3.size)
  clear hw4'
  go_wp2_with fail
  refine (h4.out _ (HE.out.below hlt hw4)).mono ?_
  rintro e w5 ⟨rfl, hw5'⟩
  have hw5 := hw4.trans (hw5'.mono hw4.size)
  clear hw5'
  go_wp2_with fail
  refine (specFixOk_any X _).mono ?_
  rintro e w5b ⟨rfl, rfl⟩
  go_wp2_with fail
  refine (specFixOk_any M _).mono ?_
  rintro e w5c ⟨rfl, rfl⟩
  go_wp2_with fail
  refine (h5.out _ (HE.out.below hlt hw5)).mono ?_
  rintro e w6 ⟨rfl, hw6'⟩
  have hw6 := hw5.trans (hw6'.mono hw5.size)
  clear hw6'
  go_wp2_with fail
  refine (h6.out _ (HE.out.below hlt hw6)).mono ?_
  rintro e w7 ⟨rfl, hw7'⟩
  have hw7 := hw6.trans (hw7'.mono hw6.size)
  clear hw7'
  go_wp2_with fail
  refine (h8.out _ (HE.out.below hlt hw7)).mono ?_
  rintro e w8 ⟨rfl, hw8'⟩
  have hw8 := hw7.trans (hw8'.mono hw7.size)
  clear hw8'
  go_upto_region 13 with fail
  go_cut [132] (fun t wx => t = .bool false ∧ wx = w8)
  case first =>
    cases hA : okB a
    · go_wp2_with (refine (specFixOk_any _ _).mono ?_; rintro e w' ⟨rfl, rfl⟩)
      go_meet
      case rel => exact ⟨rfl, rfl⟩
    · obtain ⟨rfl, rfl⟩ := FA.out hA
      cases hB : okB b
      · go_wp2_with (refine (specFixOk_any _ _).mono ?_; rintro e w' ⟨rfl, rfl⟩)
        go_meet
        case rel => exact ⟨rfl, rfl⟩
      · cases s
        · obtain ⟨rfl, rfl⟩ := FB'.out hA hB rfl
          go_wp2_with (refine (specFixOk_any _ _).mono ?_; rintro e w' ⟨rfl, rfl⟩)
          go_meet
          case rel => exact ⟨rfl, rfl⟩
        · go_wp2_with (refine (specFixOk_any _ _).mono ?_; rintro e w' ⟨rfl, rfl⟩)
          go_meet
          case rel => exact ⟨rfl, rfl⟩
  case rest =>
    obtain ⟨rfl, rfl⟩ := hcut
    go_upto_region 15 with fail
    go_cut [152] (fun t wx => t = .bool false ∧ wx = wc)
    case first =>
      cases s
      · cases u
        · go_wp2_with fail
          go_meet
          case rel => exact ⟨rfl, rfl⟩
        · rcases FU'.out rfl with rfl | rfl
          all_goals
            go_wp2_with fail
            go_meet
            case rel => exact ⟨rfl, rfl⟩
      · rcases FS'.out rfl with rfl | rfl
        all_goals
          cases u
          · go_wp2_with fail
            go_meet
            case rel => exact ⟨rfl, rfl⟩
          · rcases FU'.out rfl with rfl | rfl
            all_goals
              go_wp2_with fail
              go_meet
              case rel => exact ⟨rfl, rfl⟩
    case rest =>
      obtain ⟨rfl, rfl⟩ := hcut
      have hw8 : Below w.heap.size w wc := hw8
      obtain ⟨r0, r1⟩ := relu_cases a
      obtain ⟨R, hR⟩ : ∃ R, reluN a = R := ⟨_, rfl⟩
      obtain ⟨S, hS⟩ : ∃ S, sat a = S := ⟨_, rfl⟩
      have k1 := Lib.hid (fun w h => implFixNeg_any a w h)
      have k2 := Lib.hid (fun w h => implRelu_any a w h)
      have K3 := fun w h => implFixNeg_any (-sat a) w h
      rw [neg_neg_sat] at K3
      have k3 := Lib.hid K3
      have fK : okB (-sat a) = true := okB_neg_sat a
      have fA := Lib.hid (fun h : okB a = true => sat_ok h)
      obtain ⟨q0, q1⟩ := sat_range a
      rw [hR] at r0 r1 k2
      rw [hS] at r1 k1 k3 fK fA q0 q1
      clear hR hS K3
      go_wp2_with fail
      refine (k1.out _ (HE.out.below hlt hw8)).mono ?_
      rintro e w9 ⟨rfl, hw9'⟩
      have hw9 := hw8.trans (hw9'.mono hw8.size)
      clear hw9'
      go_wp2_with fail
      refine (k2.out _ (HE.out.below hlt hw9)).mono ?_
      rintro e w10 ⟨rfl, hw10'⟩
      have hw10 := hw9.trans (hw10'.mono hw9.size)
      clear hw10'
      go_wp2_with fail
      refine (k3.out _ (HE.out.below hlt hw10)).mono ?_
      rintro e w11 ⟨rfl, hw11'⟩
      have hw11 := hw10.trans (hw11'.mono hw10.size)
      clear hw11'
      go_wp2_with fail
      refine (specFixOk_any (-S) _).mono ?_
      rintro e w12 ⟨rfl, rfl⟩
      by_cases hz : R = 0
      · subst hz
        go_wp2_with fail
        refine (specFixOk_any a _).mono ?_
        rintro e w13 ⟨rfl, rfl⟩
        cases hA : okB a
        · go_wp2_with fail
          go_ret
          exact ⟨rfl, hw11⟩
        · have := fA.out hA
          subst this
          go_wp2_with fail
          go_ret
          exact ⟨rfl, hw11⟩
      · have hRS : R = S := by
          rcases r1 with h | h
          · exact absurd h hz
          · exact h
        have tz : (R == 0) = false := by simpa using hz
        subst hRS
        clear hz r1
        go_wp2_with fail
        refine (k3.out _ (HE.out.below hlt hw11)).mono ?_
        rintro e w13 ⟨rfl, hw13'⟩
        have hw13 := hw11.trans (hw13'.mono hw11.size)
        clear hw13'
        go_wp2_with fail
        refine (specFixOk_any a _).mono ?_
        rintro e w14 ⟨rfl, rfl⟩
        cases hA : okB a
        · go_wp2_with fail
          go_ret
          exact ⟨rfl, hw13⟩
        · have := fA.out hA
          subst this
          go_wp2_with fail
          go_ret
          exact ⟨rfl, hw13⟩

set_option maxRecDepth 100000 in
theorem lawFixed2_big (w : World) (a : Option Addr) (len cap : Nat) (hm : len ≤ 9223372036854775807) (hbig : 1048576 < len) :
    Calls Tryd.prog 3 #[.slice a len cap] w fun e w' => e = .returned (.bool true) ∧ Below w.heap.size w w' := by
  go_enter Tryd.func3, Tryd.ntmps3
  go_wp2_with fail
  refine (big_yes a len cap hbig hm _).mono ?_
  rintro e w' ⟨rfl, rfl⟩
  go_wp2_with fail
  go_ret
  exact ⟨rfl, Below.refl _ _⟩
theorem lawFixed2 (w : World) (a : Option Addr) (len cap : Nat) (hm : len ≤ 9223372036854775807) (hE : LaidE w)
    (hb : ∃ bs : List UInt8, bs.length = len ∧ ∀ j (hj : j < bs.length), ∃ b o, a = some ⟨b, o, none⟩ ∧ b < w.heap.size ∧ w.cell? ⟨b, o + j, none⟩ = some (.int .u8 (bs[j].toNat : Int))) :
    Calls Tryd.prog 3 #[.slice a len cap] w fun e w' => e = .returned (.bool true) ∧ Below w.heap.size w w' :=
  law_of _ w a len cap hm hb (lawFixed2_big w a len cap hm) (fun bs hc => lawFixed_small w a cap bs hc hE)
end Go.Proofs.YthficfeiomddmaaDoor
