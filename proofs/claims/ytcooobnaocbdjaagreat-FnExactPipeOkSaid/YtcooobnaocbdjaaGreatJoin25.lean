import Derived.Test.YtcooobnaocbdjaaGreatJoin12
import Derived.Test.YtcooobnaocbdjaaGreatJoin17
/-! YtcooobnaocbdjaaGreatPModS -/
section

namespace Go.Proofs.YtcooobnaocbdjaaGreat
open Go.RowKit Go.Sort
set_option linter.unusedVariables false

theorem box1 {w : World} {g : Nat} {x : Value} {T : TypeId} (h : w.heap[g]? = some (.cells #[x] T (0, 0))) : w.cell? ⟨g, 0, none⟩ = some x := by
  rw [cell_of_row _ _ _ _ _ _ h]
  rfl
set_option maxRecDepth 100000 in
set_option maxHeartbeats 3200000 in
theorem specModelOk_c (w : World) (a : Option Addr) (n c : Nat) (m : List dOp) (h : ListAt shOp (Under w.heap.size) w a n m) (hc1 : n ≤ c) (hc2 : c ≤ 9223372036854775807) (hb : (Shape.list shOp).bulk m ≤ 1048576) :
    Calls Tryz.prog 70 #[.agg #[.slice a n c]] w fun e w' => e = .returned (.bool (modelOkB m)) ∧ Below w.heap.size w w' := by
  have hbk := bulk_list shOp h
  rw [hbk] at hb
  have hn1 : n ≤ 1048576 := by omega
  have hal : Below w.heap.size w (w.alloc (.cells #[.slice a n c] 40 (0, 0))) := (Below.refl _ _).alloc (Nat.le_refl _) _
  have hb0 := heap_alloc_new w (.cells #[.slice a n c] 40 (0, 0))
  have hs0 : w.heap.size < (w.alloc (.cells #[.slice a n c] 40 (0, 0))).heap.size := by simp
  have HL := Lib.hid h
  have HB := Lib.hid hb
  have HA := Lib.hid hal
  have HB0 := Lib.hid hb0
  obtain ⟨d, hd⟩ : ∃ d, d = modelOkB m := ⟨_, rfl⟩
  rw [← hd]
  have HD := Lib.hid hd
  clear h hb hal hb0 hbk hd
  go_enter Tryz.func70, Tryz.ntmps70
  go_wp2_with fail
  generalize w.alloc (.cells #[.slice a n c] 40 (0, 0)) = wa at HA HB0 hs0 ⊢
  go_loopw [3] (fun i wr => ∃ k : Nat, k ≤ n ∧ i = .int .i64 k ∧ Hid (∀ j, j < k → okAt m j = true) ∧ Below wa.heap.size wa wr) (fun i _ => n - (intOf i).toNat)
  case atStart => exact ⟨0, Nat.zero_le _, rfl, Lib.hid fun j hj => absurd hj (Nat.not_lt_zero _), Below.refl _ _⟩
  case round =>
    obtain ⟨k, hk, rfl, hall, hbw⟩ := hrel
    have hsz := hbw.size
    have hbox := (hbw.block w.heap.size hs0).trans HB0.out
    have hbx := box1 hbox
    have hww : Below w.heap.size w wr := HA.out.trans (hbw.mono HA.out.size)
    by_cases hlt : k < n
    · obtain ⟨x, hx⟩ : ∃ x, m[k]? = some x := ⟨_, List.getElem?_eq_getElem (by rw [HL.out.1]; exact hlt)⟩
      obtain ⟨b, o, es, rfl, hbB, hr, hs⟩ := HL.out.2 k x hx
      have hrr := rangeAt_kept hr (show b < w.heap.size from hbB) (Kept.of_below (I := Under w.heap.size) hww fun b hb => hb)
      have hsw := shOp.below hs hww (Nat.le_refl _)
      have hbx' : shOp.bulk x ≤ 1048576 := by have h1 := bulk_mem shOp.bulk m k x hx; have h2 := HB.out; omega
      rw [shOp_bulk, bulk_ints] at hbx'
      obtain ⟨ae, ne, ce, rfl, ge, le, me⟩ := shOp_reads.1 hsw
      have HC := Lib.hid fun (w1 : World) (hb1 : Below wa.heap.size wr w1) => specOpOk_any w1 x.1 x.2.1 x.2.2.1 ae ne ce x.2.2.2 (((me.below (hb1.mono HA.out.size) (Nat.le_refl _)).ints (by rw [← me.1]; exact hbx')).le (Nat.le_trans HA.out.size (Nat.le_trans hsz hb1.size)))
      rw [shOp_size] at hrr
      have c0 := hrr 0 _ rfl
      have c1 := hrr 1 _ rfl
      have c2 := hrr 2 _ rfl
      have c3 := hrr 3 _ rfl
      simp only [Nat.add_zero] at c0
      obtain ⟨p, hp⟩ : ∃ p, opOkB x.1 x.2.1 x.2.2.1 x.2.2.2 = p := ⟨_, rfl⟩
      simp only [hp] at HC
      have HX := Lib.hid hx
      have HP : Hid (dOpOk x = p) := Lib.hid hp
      have HBW := Lib.hid hbw
      clear hr hrr hs hsw me hx hp hbw hbx' hww
      cases p
      · have hdf : d = false := by rw [HD.out]; exact modelOk_no (by rw [HL.out.1]; exact hlt) (okAt_bad HX.out HP.out)
        subst hdf
        go_upto_region 4 with fail
        have kb := cell_regrown hbx
        have k0 := cell_regrown c0
        have k1 := cell_regrown c1
        have k2 := cell_regrown c2
        have k3 := cell_regrown c3
        have cC := fun d os => Calls.regrown_of (w := wr) (d := d) (os := os) (HC.out _ ((below_regrown wr d os).mono hsz))
        have CC := Lib.hid cC
        clear hbx c0 c1 c2 c3 cC
        refine wp_region_quiet_below (by kernel_rfl) (by kernel_rfl) ?_
        repeat (go_big_quiet_step (with_reducible first | exact CC.out _ _))
        refine wpQuiet_nil ?_
        intro _ hw'
        obtain ⟨⟨dq, osq⟩, hw''⟩ := hw'
        subst hw''
        have hwq := below_regrown wr dq osq
        generalize grow (redrawn wr dq) osq = w1 at hwq ⊢
        have HW := Lib.hid hwq
        clear hwq k0 k1 k2 k3 kb
        go_wp2_with fail
        go_ret
        exact ⟨rfl, HA.out.trans ((HBW.out.trans (HW.out.mono hsz)).mono HA.out.size)⟩
      · have HPT := HP
        by_cases k0 : k = 0
        · have hgt : decide ((k : Int) > 0) = false := decide_eq_false (by omega)
          have h0k : ¬ 0 < k := by omega
          have HOK := Lib.hid (okAt_zero (k0 ▸ HX.out) HP.out)
          have HK0 := Lib.hid k0
          clear k0
          go_upto_region 4 with fail
          have kk0 := cell_regrown hbx
          have kk1 := cell_regrown c0
          have kk2 := cell_regrown c1
          have kk3 := cell_regrown c2
          have kk4 := cell_regrown c3
          have cC0 := fun d os => Calls.regrown_of (w := wr) (d := d) (os := os) (HC.out _ ((below_regrown wr d os).mono hsz))
          have CC0 := Lib.hid cC0
          clear hbx c0 c1 c2 c3 cC0
          refine wp_region_quiet_below (by kernel_rfl) (by kernel_rfl) ?_
          repeat (go_big_quiet_step (with_reducible first | exact CC0.out _ _))
          refine wpQuiet_nil ?_
          intro _ hw'
          obtain ⟨⟨dq, osq⟩, hw''⟩ := hw'
          subst hw''
          have hwq := below_regrown wr dq osq
          generalize grow (redrawn wr dq) osq = w1 at hwq ⊢
          have HW := Lib.hid hwq
          clear hwq kk0 kk1 kk2 kk3 kk4
          go_wp2_with fail
          go_round
          case rel =>
            refine ⟨k + 1, by omega, by go_num, Lib.hid fun j hj => ?_, HBW.out.trans (HW.out.mono hsz)⟩
            have hk0 := HK0.out
            obtain rfl : j = 0 := by omega
            exact hk0 ▸ HOK.out
          case measure => simp [intOf]; omega
        · obtain ⟨j, hj⟩ : ∃ j, k = j + 1 := ⟨k - 1, by omega⟩
          have hgt : decide ((k : Int) > 0) = true := decide_eq_true (by omega)
          have h0k : 0 < k := by omega
          have hw1 : wrap64 ((k : Int) - 1) = (j : Int) := by rw [IntWalk.wrap64_in _ (by omega)]; omega
          have hw2 : IntKind.i64.wrap ((k : Int) - 1) = (j : Int) := by rw [IntKind.wrap_i64]; omega
          have hjn : j < n := by omega
          obtain ⟨y, hy⟩ : ∃ y, m[j]? = some y := ⟨_, List.getElem?_eq_getElem (by rw [HL.out.1]; exact hjn)⟩
          obtain ⟨b', o', es', eb, hbB', hr', hs'⟩ := HL.out.2 j y hy
          cases eb
          have hww : Below w.heap.size w wr := HA.out.trans (HBW.out.mono HA.out.size)
          have hrr' := rangeAt_kept hr' (show b < w.heap.size from hbB') (Kept.of_below (I := Under w.heap.size) hww fun b hb => hb)
          obtain ⟨af, nf, cf, rfl, -⟩ := shOp_reads.1 hs'
          rw [shOp_size] at hrr'
          have e0 := hrr' 0 _ rfl
          have e1 := hrr' 1 _ rfl
          have e2 := hrr' 2 _ rfl
          have e3 := hrr' 3 _ rfl
          simp only [Nat.add_zero] at e0
          have HOK := Lib.hid (okAt_next HX.out hy hj HP.out)
          clear hr' hrr' hs' hww hy hbB'
          have HJ := Lib.hid hj
          clear hj k0
          by_cases hxy : x.2.1 = y.2.2.1
          · have hne : (x.2.1 != y.2.2.1) = false := by simp [hxy]
            replace HOK := Lib.hid (HOK.out.trans (decide_eq_true hxy))
            clear hxy
            go_upto_region 4 with fail
            have kk0 := cell_regrown hbx
            have kk1 := cell_regrown c0
            have kk2 := cell_regrown c1
            have kk3 := cell_regrown c2
            have kk4 := cell_regrown c3
            have kk5 := cell_regrown e0
            have kk6 := cell_regrown e1
            have kk7 := cell_regrown e2
            have kk8 := cell_regrown e3
            have cC0 := fun d os => Calls.regrown_of (w := wr) (d := d) (os := os) (HC.out _ ((below_regrown wr d os).mono hsz))
            have CC0 := Lib.hid cC0
            clear hbx c0 c1 c2 c3 e0 e1 e2 e3 cC0
            refine wp_region_quiet_below (by kernel_rfl) (by kernel_rfl) ?_
            repeat (go_big_quiet_step (with_reducible first | exact CC0.out _ _))
            refine wpQuiet_nil ?_
            intro _ hw'
            obtain ⟨⟨dq, osq⟩, hw''⟩ := hw'
            subst hw''
            have hwq := below_regrown wr dq osq
            generalize grow (redrawn wr dq) osq = w1 at hwq ⊢
            have HW := Lib.hid hwq
            clear hwq kk0 kk1 kk2 kk3 kk4 kk5 kk6 kk7 kk8
            go_wp2_with fail
            go_round
            case rel =>
              refine ⟨k + 1, by omega, by go_num, Lib.hid fun i hi => ?_, HBW.out.trans (HW.out.mono hsz)⟩
              by_cases e : i = k
              · subst e; exact HOK.out
              · exact hall.out i (by omega)
            case measure => simp [intOf]; omega
          · have hne : (x.2.1 != y.2.2.1) = true := by simpa using hxy
            have hdf : d = false := by rw [HD.out]; exact modelOk_no (by rw [HL.out.1]; exact hlt) (HOK.out.trans (decide_eq_false hxy))
            subst hdf
            clear hxy
            go_upto_region 4 with fail
            have kk0 := cell_regrown hbx
            have kk1 := cell_regrown c0
            have kk2 := cell_regrown c1
            have kk3 := cell_regrown c2
            have kk4 := cell_regrown c3
            have kk5 := cell_regrown e0
            have kk6 := cell_regrown e1
            have kk7 := cell_regrown e2
            have kk8 := cell_regrown e3
            have cC0 := fun d os => Calls.regrown_of (w := wr) (d := d) (os := os) (HC.out _ ((below_regrown wr d os).mono hsz))
            have CC0 := Lib.hid cC0
            clear hbx c0 c1 c2 c3 e0 e1 e2 e3 cC0
            refine wp_region_quiet_below (by kernel_rfl) (by kernel_rfl) ?_
            repeat (go_big_quiet_step (with_reducible first | exact CC0.out _ _))
            refine wpQuiet_nil ?_
            intro _ hw'
            obtain ⟨⟨dq, osq⟩, hw''⟩ := hw'
            subst hw''
            have hwq := below_regrown wr dq osq
            generalize grow (redrawn wr dq) osq = w1 at hwq ⊢
            have HW := Lib.hid hwq
            clear hwq kk0 kk1 kk2 kk3 kk4 kk5 kk6 kk7 kk8
            go_wp2_with fail
            go_ret
            exact ⟨rfl, HA.out.trans ((HBW.out.trans (HW.out.mono hsz)).mono HA.out.size)⟩
    · obtain rfl : k = n := by omega
      have hdd : inB 1 8 (k : Int) = d := by
        rw [HD.out, ← HL.out.1]
        exact (modelOk_all (fun j hj => hall.out j (by rw [← HL.out.1]; exact hj))).symm
      have HE := Lib.hid hdd
      have HWW := Lib.hid hww
      clear hdd hbw hww hbox
      go_wp2_with fail
      refine (l1In_any _ _ _ _).mono ?_
      rintro e w' ⟨rfl, rfl⟩
      go_wp2_with fail
      go_ret
      exact ⟨by rw [HE.out] <;> rfl, HWW.out⟩

end Go.Proofs.YtcooobnaocbdjaaGreat

end

/-! YtcooobnaocbdjaaGreatPModD -/
section

namespace Go.Proofs.YtcooobnaocbdjaaGreat
open Go.RowKit
set_option linter.unusedVariables false

section
variable (w : World) (es : List Value) (m : dModel) (h : shModel.reads (Under w.heap.size) w es m) (hb : shModel.bulk m ≤ 1048576)
include h hb
theorem specModelOk_d : Calls Tryz.prog 70 #[.agg es.toArray] w fun e w' => e = .returned (.bool (modelOkB m)) ∧ Below w.heap.size w w' := by
  obtain ⟨a, n, c, rfl, h1, h2, h3⟩ := shModel_reads.1 h
  exact specModelOk_c w a n c m h3 h1 h2 hb
end
end Go.Proofs.YtcooobnaocbdjaaGreat

end
