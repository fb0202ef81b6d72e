/-
  The model's functions on models.
-/
import Derived.Test.YtkflinobmagiiaaJoin21
import Derived.Test.YtkflinobmagiiaaJoin16
namespace Go.Proofs.Ytkflinobmagiiaa
open Go.RowKit Go.Sort
set_option linter.unusedVariables false

theorem box1 {w : World} {g : Nat} {x : Value} {T : TypeId} (h : w.heap[g]? = some (.cells #[x] T (0, 0))) : w.cell? ⟨g, 0, none⟩ = some x := by
  rw [cell_of_row _ _ _ _ _ _ h]
  rfl
set_option maxRecDepth 100000 in
set_option maxHeartbeats 3200000 in
theorem specModelOk_c (w : World) (a : Option Addr) (n c : Nat) (m : List dOp) (h : ListAt shOp (Under w.heap.size) w a n m) (hc1 : n ≤ c) (hc2 : c ≤ 9223372036854775807) (hb : (Shape.list shOp).bulk m ≤ 1048576) :
    Calls Try.prog 54 #[.agg #[.slice a n c]] w fun e w' => e = .returned (.bool (modelOkB m)) ∧ Below w.heap.size w w' := by
  have hbk := bulk_list shOp h
  rw [hbk] at hb
  have hn1 : n ≤ 1048576 := by omega
  have hal : Below w.heap.size w (w.alloc (.cells #[.slice a n c] 26 (0, 0))) := (Below.refl _ _).alloc (Nat.le_refl _) _
  have hb0 := heap_alloc_new w (.cells #[.slice a n c] 26 (0, 0))
  have hs0 : w.heap.size < (w.alloc (.cells #[.slice a n c] 26 (0, 0))).heap.size := by simp
  have HL := Lib.hid h
  have HB := Lib.hid hb
  have HA := Lib.hid hal
  have HB0 := Lib.hid hb0
  obtain ⟨d, hd⟩ : ∃ d, d = modelOkB m := ⟨_, rfl⟩
  rw [← hd]
  have HD := Lib.hid hd
  clear h hb hal hb0 hbk hd
  go_enter Try.func54, Try.ntmps54
  go_wp2_with fail
  generalize w.alloc (.cells #[.slice a n c] 26 (0, 0)) = wa at HA HB0 hs0 ⊢
  go_loopw [3] (fun i wr => ∃ k : Nat, k ≤ n ∧ i = .int .i64 k ∧ Hid (∀ j, j < k → okAt m j = true) ∧ Below wa.heap.size wa wr) (fun i _ => n - (intOf i).toNat)
  case atStart => exact ⟨0, Nat.zero_le _, rfl, Lib.hid fun j hj => absurd hj (Nat.not_lt_zero _), Below.refl _ _⟩
  case round =>
    obtain ⟨k, hk, rfl, hall, hbw⟩ := hrel
    have hsz := hbw.size
    have hbox := (hbw.block w.heap.size hs0).trans HB0.out
    have hbx := box1 hbox
    have hww : Below w.heap.size w wr := HA.out.trans (hbw.mono HA.out.size)
    by_cases hlt : k < n
    · obtain ⟨x, hx⟩ : ∃ x, m[k]? = some x := ⟨_, List.getElem?_eq_getElem (by rw [HL.out.1]; exact hlt)⟩
      obtain ⟨b, o, es, rfl, hbB, hr, hs⟩ := HL.out.2 k x hx
      have hrr := rangeAt_kept hr (show b < w.heap.size from hbB) (Kept.of_below (I := Under w.heap.size) hww fun b hb => hb)
      have hsw := shOp.below hs hww (Nat.le_refl _)
      have hbx' : shOp.bulk x ≤ 1048576 := by have h1 := bulk_mem shOp.bulk m k x hx; have h2 := HB.out; omega
      rw [shOp_bulk, bulk_ints] at hbx'
      obtain ⟨ae, ne, ce, rfl, ge, le, me⟩ := shOp_reads.1 hsw
      have HC := Lib.hid fun (w1 : World) (hb1 : Below wa.heap.size wr w1) => specOpOk_any w1 x.1 x.2.1 x.2.2.1 ae ne ce x.2.2.2 (((me.below (hb1.mono HA.out.size) (Nat.le_refl _)).ints (by rw [← me.1]; exact hbx')).le (Nat.le_trans HA.out.size (Nat.le_trans hsz hb1.size)))
      rw [shOp_size] at hrr
      have c0 := hrr 0 _ rfl
      have c1 := hrr 1 _ rfl
      have c2 := hrr 2 _ rfl
      have c3 := hrr 3 _ rfl
      simp only [Nat.add_zero] at c0
      obtain ⟨p, hp⟩ : ∃ p, opOkB x.1 x.2.1 x.2.2.1 x.2.2.2 = p := ⟨_, rfl⟩
      simp only [hp] at HC
      have HX := Lib.hid hx
      have HP : Hid (dOpOk x = p) := Lib.hid hp
      have HBW := Lib.hid hbw
      clear hr hrr hs hsw me hx hp hbw hbx' hww
      cases p
      · have hdf : d = false := by rw [HD.out]; exact modelOk_no (by rw [HL.out.1]; exact hlt) (okAt_bad HX.out HP.out)
        subst hdf
        go_upto_region 4 with fail
        have kb := cell_regrown hbx
        have k0 := cell_regrown c0
        have k1 := cell_regrown c1
        have k2 := cell_regrown c2
        have k3 := cell_regrown c3
        have cC := fun d os => Calls.regrown_of (w := wr) (d := d) (os := os) (HC.out _ ((below_regrown wr d os).mono hsz))
        have CC := Lib.hid cC
        clear hbx c0 c1 c2 c3 cC
        refine wp_region_quiet_below (by kernel_rfl) (by kernel_rfl) ?_
        repeat (go_big_quiet_step (with_reducible first | exact CC.out _ _))
        refine wpQuiet_nil ?_
        intro _ hw'
        obtain ⟨⟨dq, osq⟩, hw''⟩ := hw'
        subst hw''
        have hwq := below_regrown wr dq osq
        generalize grow (redrawn wr dq) osq = w1 at hwq ⊢
        have HW := Lib.hid hwq
        clear hwq k0 k1 k2 k3 kb
        go_wp2_with fail
        go_ret
        exact ⟨rfl, HA.out.trans ((HBW.out.trans (HW.out.mono hsz)).mono HA.out.size)⟩
      · have HPT := HP
        by_cases k0 : k = 0
        · have hgt : decide ((k : Int) > 0) = false := decide_eq_false (by omega)
          have h0k : ¬ 0 < k := by omega
          have HOK := Lib.hid (okAt_zero (k0 ▸ HX.out) HP.out)
          have HK0 := Lib.hid k0
          clear k0
          go_upto_region 4 with fail
          have kk0 := cell_regrown hbx
          have kk1 := cell_regrown c0
          have kk2 := cell_regrown c1
          have kk3 := cell_regrown c2
          have kk4 := cell_regrown c3
          have cC0 := fun d os => Calls.regrown_of (w := wr) (d := d) (os := os) (HC.out _ ((below_regrown wr d os).mono hsz))
          have CC0 := Lib.hid cC0
          clear hbx c0 c1 c2 c3 cC0
          refine wp_region_quiet_below (by kernel_rfl) (by kernel_rfl) ?_
          repeat (go_big_quiet_step (with_reducible first | exact CC0.out _ _))
          refine wpQuiet_nil ?_
          intro _ hw'
          obtain ⟨⟨dq, osq⟩, hw''⟩ := hw'
          subst hw''
          have hwq := below_regrown wr dq osq
          generalize grow (redrawn wr dq) osq = w1 at hwq ⊢
          have HW := Lib.hid hwq
          clear hwq kk0 kk1 kk2 kk3 kk4
          go_wp2_with fail
          go_round
          case rel =>
            refine ⟨k + 1, by omega, by go_num, Lib.hid fun j hj => ?_, HBW.out.trans (HW.out.mono hsz)⟩
            have hk0 := HK0.out
            obtain rfl : j = 0 := by omega
            exact hk0 ▸ HOK.out
          case measure => simp [intOf]; omega
        · obtain ⟨j, hj⟩ : ∃ j, k = j + 1 := ⟨k - 1, by omega⟩
          have hgt : decide ((k : Int) > 0) = true := decide_eq_true (by omega)
          have h0k : 0 < k := by omega
          have hw1 : wrap64 ((k : Int) - 1) = (j : Int) := by rw [IntWalk.wrap64_in _ (by omega)]; omega
          have hw2 : IntKind.i64.wrap ((k : Int) - 1) = (j : Int) := by rw [IntKind.wrap_i64]; omega
          have hjn : j < n := by omega
          obtain ⟨y, hy⟩ : ∃ y, m[j]? = some y := ⟨_, List.getElem?_eq_getElem (by rw [HL.out.1]; exact hjn)⟩
          obtain ⟨b', o', es', eb, hbB', hr', hs'⟩ := HL.out.2 j y hy
          cases eb
          have hww : Below w.heap.size w wr := HA.out.trans (HBW.out.mono HA.out.size)
          have hrr' := rangeAt_kept hr' (show b < w.heap.size from hbB') (Kept.of_below (I := Under w.heap.size) hww fun b hb => hb)
          obtain ⟨af, nf, cf, rfl, -⟩ := shOp_reads.1 hs'
          rw [shOp_size] at hrr'
          have e0 := hrr' 0 _ rfl
          have e1 := hrr' 1 _ rfl
          have e2 := hrr' 2 _ rfl
          have e3 := hrr' 3 _ rfl
          simp only [Nat.add_zero] at e0
          have HOK := Lib.hid (okAt_next HX.out hy hj HP.out)
          clear hr' hrr' hs' hww hy hbB'
          have HJ := Lib.hid hj
          clear hj k0
          by_cases hxy : x.2.1 = y.2.2.1
          · have hne : (x.2.1 != y.2.2.1) = false := by simp [hxy]
            replace HOK := Lib.hid (HOK.out.trans (decide_eq_true hxy))
            clear hxy
            go_upto_region 4 with fail
            have kk0 := cell_regrown hbx
            have kk1 := cell_regrown c0
            have kk2 := cell_regrown c1
            have kk3 := cell_regrown c2
            have kk4 := cell_regrown c3
            have kk5 := cell_regrown e0
            have kk6 := cell_regrown e1
            have kk7 := cell_regrown e2
            have kk8 := cell_regrown e3
            have cC0 := fun d os => Calls.regrown_of (w := wr) (d := d) (os := os) (HC.out _ ((below_regrown wr d os).mono hsz))
            have CC0 := Lib.hid cC0
            clear hbx c0 c1 c2 c3 e0 e1 e2 e3 cC0
            refine wp_region_quiet_below (by kernel_rfl) (by kernel_rfl) ?_
            repeat (go_big_quiet_step (with_reducible first | exact CC0.out _ _))
            refine wpQuiet_nil ?_
            intro _ hw'
            obtain ⟨⟨dq, osq⟩, hw''⟩ := hw'
            subst hw''
            have hwq := below_regrown wr dq osq
            generalize grow (redrawn wr dq) osq = w1 at hwq ⊢
            have HW := Lib.hid hwq
            clear hwq kk0 kk1 kk2 kk3 kk4 kk5 kk6 kk7 kk8
            go_wp2_with fail
            go_round
            case rel =>
              refine ⟨k + 1, by omega, by go_num, Lib.hid fun i hi => ?_, HBW.out.trans (HW.out.mono hsz)⟩
              by_cases e : i = k
              · subst e; exact HOK.out
              · exact hall.out i (by omega)
            case measure => simp [intOf]; omega
          · have hne : (x.2.1 != y.2.2.1) = true := by simpa using hxy
            have hdf : d = false := by rw [HD.out]; exact modelOk_no (by rw [HL.out.1]; exact hlt) (HOK.out.trans (decide_eq_false hxy))
            subst hdf
            clear hxy
            go_upto_region 4 with fail
            have kk0 := cell_regrown hbx
            have kk1 := cell_regrown c0
            have kk2 := cell_regrown c1
            have kk3 := cell_regrown c2
            have kk4 := cell_regrown c3
            have kk5 := cell_regrown e0
            have kk6 := cell_regrown e1
            have kk7 := cell_regrown e2
            have kk8 := cell_regrown e3
            have cC0 := fun d os => Calls.regrown_of (w := wr) (d := d) (os := os) (HC.out _ ((below_regrown wr d os).mono hsz))
            have CC0 := Lib.hid cC0
            clear hbx c0 c1 c2 c3 e0 e1 e2 e3 cC0
            refine wp_region_quiet_below (by kernel_rfl) (by kernel_rfl) ?_
            repeat (go_big_quiet_step (with_reducible first | exact CC0.out _ _))
            refine wpQuiet_nil ?_
            intro _ hw'
            obtain ⟨⟨dq, osq⟩, hw''⟩ := hw'
            subst hw''
            have hwq := below_regrown wr dq osq
            generalize grow (redrawn wr dq) osq = w1 at hwq ⊢
            have HW := Lib.hid hwq
            clear hwq kk0 kk1 kk2 kk3 kk4 kk5 kk6 kk7 kk8
            go_wp2_with fail
            go_ret
            exact ⟨rfl, HA.out.trans ((HBW.out.trans (HW.out.mono hsz)).mono HA.out.size)⟩
    · obtain rfl : k = n := by omega
      have hdd : inB 1 8 (k : Int) = d := by
        rw [HD.out, ← HL.out.1]
        exact (modelOk_all (fun j hj => hall.out j (by rw [← HL.out.1]; exact hj))).symm
      have HE := Lib.hid hdd
      have HWW := Lib.hid hww
      clear hdd hbw hww hbox
      go_wp2_with fail
      refine (l1In_any _ _ _ _).mono ?_
      rintro e w' ⟨rfl, rfl⟩
      go_wp2_with fail
      go_ret
      exact ⟨by rw [HE.out] <;> rfl, HWW.out⟩

set_option maxRecDepth 100000 in
set_option maxHeartbeats 1600000 in
theorem specInOf_c (w : World) (a : Option Addr) (n c : Nat) (m : List dOp) (h : ListAt shOp (Under w.heap.size) w a n m) (hc1 : n ≤ c) (hc2 : c ≤ 9223372036854775807) (hb : (Shape.list shOp).bulk m ≤ 1048576) :
    Calls Try.prog 72 #[.agg #[.slice a n c]] w fun e w' => e = .returned (.int .i64 (inOfN m)) ∧ Below w.heap.size w w' := by
  have hal : Below w.heap.size w (w.alloc (.cells #[.slice a n c] 26 (0, 0))) := (Below.refl _ _).alloc (Nat.le_refl _) _
  have hb0 := heap_alloc_new w (.cells #[.slice a n c] 26 (0, 0))
  have hs0 : w.heap.size < (w.alloc (.cells #[.slice a n c] 26 (0, 0))).heap.size := by simp
  have HM := specModelOk_c _ a n c m ((h.below hal (Nat.le_refl _)).le hal.size) hc1 hc2 hb
  have HL := Lib.hid h
  have HA := Lib.hid hal
  have HB0 := Lib.hid hb0
  have HS0 := Lib.hid hs0
  obtain ⟨d, hd⟩ : ∃ d, d = inOfN m := ⟨_, rfl⟩
  rw [← hd]
  unfold inOfN at hd
  have hlen := h.1
  clear h hb hal hb0 hs0
  cases hk : modelOkB m with
  | false =>
    rw [hk] at HM hd
    have hdf : d = 0 := hd
    subst hdf
    replace HM := Lib.hid HM
    clear hk hd
    go_enter Try.func72, Try.ntmps72
    go_wp2_with fail
    refine HM.out.mono ?_
    rintro e w1 ⟨rfl, hb⟩
    have HB := Lib.hid (HA.out.trans (hb.mono HA.out.size))
    clear hb
    go_wp2_with fail
    go_ret
    exact ⟨rfl, HB.out⟩
  | true =>
    obtain ⟨-, h1, h2⟩ := modelOk_has hk
    rw [hlen] at h1 h2
    rw [hk, if_pos rfl] at hd
    rw [hk] at HM
    replace HM := Lib.hid HM
    obtain ⟨j, hj⟩ : ∃ j : Nat, j = 0 := ⟨0, rfl⟩
    obtain ⟨x, hx⟩ : ∃ x, m[j]? = some x := ⟨_, List.getElem?_eq_getElem (by rw [hlen]; omega)⟩
    have hdd : x.2.1 = d := by rw [hd, ← hj, opAt_get hx]
    subst hdd
    obtain ⟨b, o, es, rfl, hbB, hr, hs⟩ := HL.out.2 j x hx
    obtain ⟨ae, ne, ce, rfl, -⟩ := shOp_reads.1 hs
    have HR := Lib.hid hr
    have hbB' : b < w.heap.size := hbB
    clear hk hd hs hr hx hbB
    go_enter Try.func72, Try.ntmps72
    go_wp2_with fail
    refine HM.out.mono ?_
    rintro e w1 ⟨rfl, hb⟩
    have HB := Lib.hid (HA.out.trans (hb.mono HA.out.size))
    have hbx := box1 ((hb.block w.heap.size HS0.out).trans HB0.out)
    have hrr := rangeAt_kept HR.out hbB' (Kept.of_below (I := Under w.heap.size) HB.out fun b hb => hb)
    rw [shOp_size] at hrr
    have c0 := hrr 0 _ rfl
    have c1 := hrr 1 _ rfl
    have c2 := hrr 2 _ rfl
    have c3 := hrr 3 _ rfl
    subst hj
    simp only [Nat.zero_mul, Nat.add_zero] at c0 c1 c2 c3
    clear hb hrr
    go_wp2_with fail
    go_ret
    exact ⟨rfl, HB.out⟩

set_option maxRecDepth 100000 in
set_option maxHeartbeats 1600000 in
theorem specOutOf_c (w : World) (a : Option Addr) (n c : Nat) (m : List dOp) (h : ListAt shOp (Under w.heap.size) w a n m) (hc1 : n ≤ c) (hc2 : c ≤ 9223372036854775807) (hb : (Shape.list shOp).bulk m ≤ 1048576) :
    Calls Try.prog 73 #[.agg #[.slice a n c]] w fun e w' => e = .returned (.int .i64 (outOfN m)) ∧ Below w.heap.size w w' := by
  have hal : Below w.heap.size w (w.alloc (.cells #[.slice a n c] 26 (0, 0))) := (Below.refl _ _).alloc (Nat.le_refl _) _
  have hb0 := heap_alloc_new w (.cells #[.slice a n c] 26 (0, 0))
  have hs0 : w.heap.size < (w.alloc (.cells #[.slice a n c] 26 (0, 0))).heap.size := by simp
  have HM := specModelOk_c _ a n c m ((h.below hal (Nat.le_refl _)).le hal.size) hc1 hc2 hb
  have HL := Lib.hid h
  have HA := Lib.hid hal
  have HB0 := Lib.hid hb0
  have HS0 := Lib.hid hs0
  obtain ⟨d, hd⟩ : ∃ d, d = outOfN m := ⟨_, rfl⟩
  rw [← hd]
  unfold outOfN at hd
  have hlen := h.1
  clear h hb hal hb0 hs0
  cases hk : modelOkB m with
  | false =>
    rw [hk] at HM hd
    have hdf : d = 0 := hd
    subst hdf
    replace HM := Lib.hid HM
    clear hk hd
    go_enter Try.func73, Try.ntmps73
    go_wp2_with fail
    refine HM.out.mono ?_
    rintro e w1 ⟨rfl, hb⟩
    have HB := Lib.hid (HA.out.trans (hb.mono HA.out.size))
    clear hb
    go_wp2_with fail
    go_ret
    exact ⟨rfl, HB.out⟩
  | true =>
    obtain ⟨-, h1, h2⟩ := modelOk_has hk
    rw [hlen] at h1 h2
    rw [hk, if_pos rfl] at hd
    rw [hk] at HM
    replace HM := Lib.hid HM
    obtain ⟨j, hj⟩ : ∃ j : Nat, j = n - 1 := ⟨_, rfl⟩
    have hw1 : wrap64 ((n : Int) - 1) = (j : Int) := by rw [IntWalk.wrap64_in _ (by omega)]; omega
    have hw2 : (n : Int) - 1 = (j : Int) := by omega
    have hjn : j < n := by omega
    obtain ⟨x, hx⟩ : ∃ x, m[j]? = some x := ⟨_, List.getElem?_eq_getElem (by rw [hlen]; omega)⟩
    have hdd : x.2.2.1 = d := by rw [hd, hlen, ← hj, opAt_get hx]
    subst hdd
    obtain ⟨b, o, es, rfl, hbB, hr, hs⟩ := HL.out.2 j x hx
    obtain ⟨ae, ne, ce, rfl, -⟩ := shOp_reads.1 hs
    have HR := Lib.hid hr
    have hbB' : b < w.heap.size := hbB
    clear hk hd hs hr hx hbB
    go_enter Try.func73, Try.ntmps73
    go_wp2_with fail
    refine HM.out.mono ?_
    rintro e w1 ⟨rfl, hb⟩
    have HB := Lib.hid (HA.out.trans (hb.mono HA.out.size))
    have hbx := box1 ((hb.block w.heap.size HS0.out).trans HB0.out)
    have hrr := rangeAt_kept HR.out hbB' (Kept.of_below (I := Under w.heap.size) HB.out fun b hb => hb)
    rw [shOp_size] at hrr
    have c0 := hrr 0 _ rfl
    have c1 := hrr 1 _ rfl
    have c2 := hrr 2 _ rfl
    have c3 := hrr 3 _ rfl
    simp only [Nat.add_zero] at c0
    clear hj
    clear hb hrr
    go_wp2_with fail
    go_ret
    exact ⟨rfl, HB.out⟩

theorem pairOk_x {i o : Int} {p : dPair} (h : vecOkB p.1 = false) : pairOkB i o p = false := by unfold pairOkB; rw [h]; simp
theorem pairOk_t {i o : Int} {p : dPair} (h : vecOkB p.2 = false) : pairOkB i o p = false := by unfold pairOkB; rw [h]; simp
theorem pairOk_i {i o : Int} {p : dPair} (h : ¬ (p.1.length : Int) = i) : pairOkB i o p = false := by unfold pairOkB; rw [decide_eq_false h]; simp
theorem pairOk_o {i o : Int} {p : dPair} (h : ¬ (p.2.length : Int) = o) : pairOkB i o p = false := by unfold pairOkB; rw [decide_eq_false h]; simp
theorem pairOk_yes {i o : Int} {p : dPair} (h1 : vecOkB p.1 = true) (h2 : vecOkB p.2 = true) (h3 : (p.1.length : Int) = i) (h4 : (p.2.length : Int) = o) : pairOkB i o p = true := by unfold pairOkB; rw [h1, h2, decide_eq_true h3, decide_eq_true h4]; rfl
theorem batchOk_no {m : List dOp} {b : List dPair} {k : Nat} {x : dPair} (hx : b[k]? = some x) (h : pairOkB (inOfN m) (outOfN m) x = false) : batchOkB m b = false := by
  unfold batchOkB
  have : b.all (pairOkB (inOfN m) (outOfN m)) = false := List.all_eq_false.2 ⟨x, List.mem_of_getElem? hx, by rw [h]; decide⟩
  rw [this, Bool.and_false]
theorem batchOk_yes {m : List dOp} {b : List dPair} (h1 : modelOkB m = true) (h2 : inB 1 5 (b.length : Int) = true) (h : ∀ (j : Nat) (x : dPair), b[j]? = some x → pairOkB (inOfN m) (outOfN m) x = true) : batchOkB m b = true := by
  unfold batchOkB
  rw [h1, h2]
  have : b.all (pairOkB (inOfN m) (outOfN m)) = true := List.all_eq_true.2 fun x hx => by
    obtain ⟨j, hj⟩ := List.mem_iff_getElem?.1 hx
    exact h j x hj
  rw [this]
  rfl
theorem batchOk_m {m : List dOp} {b : List dPair} (h : modelOkB m = false) : batchOkB m b = false := by unfold batchOkB; rw [h]; rfl
theorem batchOk_l {m : List dOp} {b : List dPair} (h : inB 1 5 (b.length : Int) = false) : batchOkB m b = false := by unfold batchOkB; rw [h]; simp
set_option maxRecDepth 100000 in
set_option maxHeartbeats 6400000 in
theorem specBatchOk_c (w : World) (a : Option Addr) (n c : Nat) (m : List dOp) (h : ListAt shOp (Under w.heap.size) w a n m) (hc1 : n ≤ c) (hc2 : c ≤ 9223372036854775807) (hb : (Shape.list shOp).bulk m ≤ 1048576)
    (a' : Option Addr) (n' c' : Nat) (ps : List dPair) (h' : ListAt shPair (Under w.heap.size) w a' n' ps) (hb' : (Shape.list shPair).bulk ps ≤ 1048577) :
    Calls Try.prog 55 #[.agg #[.slice a n c], .slice a' n' c'] w fun e w' => e = .returned (.bool (batchOkB m ps)) ∧ Below w.heap.size w w' := by
  have hal : Below w.heap.size w (w.alloc (.cells #[.slice a n c] 26 (0, 0))) := (Below.refl _ _).alloc (Nat.le_refl _) _
  have hb0 := heap_alloc_new w (.cells #[.slice a n c] 26 (0, 0))
  have hs0 : w.heap.size < (w.alloc (.cells #[.slice a n c] 26 (0, 0))).heap.size := by simp
  have hbk := bulk_list shPair h'
  rw [hbk] at hb'
  have hn1 : n' ≤ 1048577 := by omega
  have HM := fun (w1 : World) (hb1 : Below w.heap.size w w1) => specModelOk_c w1 a n c m ((h.below hb1 (Nat.le_refl _)).le hb1.size) hc1 hc2 hb
  have HI := fun (w1 : World) (hb1 : Below w.heap.size w w1) => specInOf_c w1 a n c m ((h.below hb1 (Nat.le_refl _)).le hb1.size) hc1 hc2 hb
  have HO := fun (w1 : World) (hb1 : Below w.heap.size w w1) => specOutOf_c w1 a n c m ((h.below hb1 (Nat.le_refl _)).le hb1.size) hc1 hc2 hb
  have HN := fun w => l1In_any (n' : Int) 1 5 w
  have HL := Lib.hid h'
  have HB := Lib.hid hb'
  have HA := Lib.hid hal
  have HB0 := Lib.hid hb0
  obtain ⟨d, hd⟩ : ∃ d, d = batchOkB m ps := ⟨_, rfl⟩
  rw [← hd]
  have HD := Lib.hid hd
  obtain ⟨q, hq⟩ : ∃ q, modelOkB m = q := ⟨_, rfl⟩
  simp only [hq] at HM
  obtain ⟨r, hr⟩ : ∃ r, inB 1 5 (n' : Int) = r := ⟨_, rfl⟩
  simp only [hr] at HN
  obtain ⟨I, hI⟩ : ∃ I, inOfN m = I := ⟨_, rfl⟩
  simp only [hI] at HI
  obtain ⟨O, hO⟩ : ∃ O, outOfN m = O := ⟨_, rfl⟩
  simp only [hO] at HO
  have HQ := Lib.hid hq
  have HR := Lib.hid hr
  have HII := Lib.hid hI
  have HOO := Lib.hid hO
  replace HM := Lib.hid HM
  replace HI := Lib.hid HI
  replace HO := Lib.hid HO
  replace HN := Lib.hid HN
  clear h h' hb hb' hal hb0 hbk hd hq hr hI hO hc1 hc2
  cases q
  · have hdf : d = false := by rw [HD.out]; exact batchOk_m HQ.out
    subst hdf
    go_enter Try.func55, Try.ntmps55
    go_wp2_with fail
    refine (HM.out _ HA.out).mono ?_
    rintro e w1 ⟨rfl, hb⟩
    have HBB := Lib.hid (HA.out.trans (hb.mono HA.out.size))
    clear hb
    go_wp2_with fail
    go_ret
    exact ⟨rfl, HBB.out⟩
  · cases r
    · have hdf : d = false := by rw [HD.out]; exact batchOk_l (by rw [HL.out.1]; exact HR.out)
      subst hdf
      go_enter Try.func55, Try.ntmps55
      go_wp2_with fail
      refine (HM.out _ HA.out).mono ?_
      rintro e w1 ⟨rfl, hb⟩
      have HBB := Lib.hid (HA.out.trans (hb.mono HA.out.size))
      clear hb
      go_wp2_with fail
      refine (HN.out _).mono ?_
      rintro e w2 ⟨rfl, rfl⟩
      go_wp2_with fail
      go_ret
      exact ⟨rfl, HBB.out⟩
    · go_enter Try.func55, Try.ntmps55
      go_wp2_with fail
      refine (HM.out _ HA.out).mono ?_
      rintro e w1 ⟨rfl, hb⟩
      have HBX := Lib.hid ((hb.block w.heap.size hs0).trans HB0.out)
      have hs1 := Nat.lt_of_lt_of_le hs0 hb.size
      have HA1 := Lib.hid (HA.out.trans (hb.mono HA.out.size))
      clear hb hs0
      go_wp2_with fail
      refine (HN.out _).mono ?_
      rintro e w2 ⟨rfl, rfl⟩
      go_wp2_with fail
      go_loopw [5] (fun i wr => ∃ k : Nat, k ≤ n' ∧ i = .int .i64 k ∧ Hid (∀ j x, j < k → ps[j]? = some x → pairOkB I O x = true) ∧ Below w1.heap.size w1 wr) (fun i _ => n' - (intOf i).toNat)
      case atStart => exact ⟨0, Nat.zero_le _, rfl, Lib.hid fun j x hj => absurd hj (Nat.not_lt_zero _), Below.refl _ _⟩
      case round =>
        obtain ⟨k, hk, rfl, hall, hbw⟩ := hrel
        have hsz := hbw.size
        have hbox := (hbw.block w.heap.size hs1).trans HBX.out
        have hbx := box1 hbox
        have hww : Below w.heap.size w wr := HA1.out.trans (hbw.mono HA1.out.size)
        by_cases hlt : k < n'
        · obtain ⟨x, hx⟩ : ∃ x, ps[k]? = some x := ⟨_, List.getElem?_eq_getElem (by rw [HL.out.1]; exact hlt)⟩
          obtain ⟨b, o, es, rfl, hbB, hr, hs⟩ := HL.out.2 k x hx
          have hrr := rangeAt_kept hr (show b < w.heap.size from hbB) (Kept.of_below (I := Under w.heap.size) hww fun b hb => hb)
          have hsw := shPair.below hs hww (Nat.le_refl _)
          have hbx' : shPair.bulk x ≤ 1048576 := by have h1 := bulk_mem shPair.bulk ps k x hx; have h2 := HB.out; omega
          rw [shPair_bulk, bulk_ints, bulk_ints] at hbx'
          obtain ⟨ax, nx, cx, at', nt, ct, rfl, ⟨-, -, mx⟩, ⟨-, -, mt⟩⟩ := shPair_reads.1 hsw
          have hlx : x.1.length = nx := mx.1
          have hlt' : x.2.length = nt := mt.1
          have HVX := fun (w2 : World) (hb1 : Below w1.heap.size wr w2) => (specVecOk_any w2 ax nx cx x.1 (((mx.below (hb1.mono HA1.out.size) (Nat.le_refl _)).ints (by omega)).le (Nat.le_trans HA1.out.size (Nat.le_trans hsz hb1.size)))).mono fun e w' h => (⟨h.1, h.2 ▸ Below.refl _ _⟩ : e = .returned (.bool (vecOkB x.1)) ∧ Below w2.heap.size w2 w')
          have HVT := fun (w2 : World) (hb1 : Below w1.heap.size wr w2) => (specVecOk_any w2 at' nt ct x.2 (((mt.below (hb1.mono HA1.out.size) (Nat.le_refl _)).ints (by omega)).le (Nat.le_trans HA1.out.size (Nat.le_trans hsz hb1.size)))).mono fun e w' h => (⟨h.1, h.2 ▸ Below.refl _ _⟩ : e = .returned (.bool (vecOkB x.2)) ∧ Below w2.heap.size w2 w')
          have CI := Lib.hid fun (w2 : World) (hb1 : Below w1.heap.size wr w2) => HI.out w2 (hww.trans (hb1.mono HA1.out.size))
          have CO := Lib.hid fun (w2 : World) (hb1 : Below w1.heap.size wr w2) => HO.out w2 (hww.trans (hb1.mono HA1.out.size))
          rw [shPair_size] at hrr
          have c0 := hrr 0 _ rfl
          have c1 := hrr 1 _ rfl
          simp only [Nat.add_zero] at c0
          obtain ⟨p, hp⟩ : ∃ p, vecOkB x.1 = p := ⟨_, rfl⟩
          obtain ⟨u, hu⟩ : ∃ u, vecOkB x.2 = u := ⟨_, rfl⟩
          simp only [hp] at HVX
          simp only [hu] at HVT
          replace HVX := Lib.hid HVX
          replace HVT := Lib.hid HVT
          have HX := Lib.hid hx
          have HP := Lib.hid hp
          have HU := Lib.hid hu
          have HLX := Lib.hid hlx
          have HLT := Lib.hid hlt'
          have HBW := Lib.hid hbw
          clear hr hrr hs hsw mx mt hx hp hu hbw hbx' hww hlx hlt' hbox
          cases p
          · have hdf : d = false := by rw [HD.out]; exact batchOk_no HX.out (pairOk_x HP.out)
            subst hdf
            go_upto_region 6 with fail
            have kk0 := cell_regrown hbx
            have kk1 := cell_regrown c0
            have kk2 := cell_regrown c1
            have cC0 := fun d os => Calls.regrown_of (w := wr) (d := d) (os := os) (HVX.out _ ((below_regrown wr d os).mono hsz))
            have CC0 := Lib.hid cC0
            have cC1 := fun d os => Calls.regrown_of (w := wr) (d := d) (os := os) (HVT.out _ ((below_regrown wr d os).mono hsz))
            have CC1 := Lib.hid cC1
            have cC2 := fun d os => Calls.regrown_of (w := wr) (d := d) (os := os) (CI.out _ ((below_regrown wr d os).mono hsz))
            have CC2 := Lib.hid cC2
            have cC3 := fun d os => Calls.regrown_of (w := wr) (d := d) (os := os) (CO.out _ ((below_regrown wr d os).mono hsz))
            have CC3 := Lib.hid cC3
            clear hbx c0 c1 cC0 cC1 cC2 cC3
            refine wp_region_quiet_below (by kernel_rfl) (by kernel_rfl) ?_
            repeat (go_big_quiet_step (with_reducible first | exact CC0.out _ _ | exact CC1.out _ _ | exact CC2.out _ _ | exact CC3.out _ _))
            refine wpQuiet_nil ?_
            intro _ hw'
            obtain ⟨⟨dq, osq⟩, hw''⟩ := hw'
            subst hw''
            have hwq := below_regrown wr dq osq
            generalize grow (redrawn wr dq) osq = w3 at hwq ⊢
            have HW := Lib.hid hwq
            clear hwq kk0 kk1 kk2
            go_wp2_with fail
            go_ret
            exact ⟨rfl, HA1.out.trans ((HBW.out.trans (HW.out.mono hsz)).mono HA1.out.size)⟩
          · cases u
            · have hdf : d = false := by rw [HD.out]; exact batchOk_no HX.out (pairOk_t HU.out)
              subst hdf
              go_upto_region 6 with fail
              have kk0 := cell_regrown hbx
              have kk1 := cell_regrown c0
              have kk2 := cell_regrown c1
              have cC0 := fun d os => Calls.regrown_of (w := wr) (d := d) (os := os) (HVX.out _ ((below_regrown wr d os).mono hsz))
              have CC0 := Lib.hid cC0
              have cC1 := fun d os => Calls.regrown_of (w := wr) (d := d) (os := os) (HVT.out _ ((below_regrown wr d os).mono hsz))
              have CC1 := Lib.hid cC1
              have cC2 := fun d os => Calls.regrown_of (w := wr) (d := d) (os := os) (CI.out _ ((below_regrown wr d os).mono hsz))
              have CC2 := Lib.hid cC2
              have cC3 := fun d os => Calls.regrown_of (w := wr) (d := d) (os := os) (CO.out _ ((below_regrown wr d os).mono hsz))
              have CC3 := Lib.hid cC3
              clear hbx c0 c1 cC0 cC1 cC2 cC3
              refine wp_region_quiet_below (by kernel_rfl) (by kernel_rfl) ?_
              repeat (go_big_quiet_step (with_reducible first | exact CC0.out _ _ | exact CC1.out _ _ | exact CC2.out _ _ | exact CC3.out _ _))
              refine wpQuiet_nil ?_
              intro _ hw'
              obtain ⟨⟨dq, osq⟩, hw''⟩ := hw'
              subst hw''
              have hwq := below_regrown wr dq osq
              generalize grow (redrawn wr dq) osq = w3 at hwq ⊢
              have HW := Lib.hid hwq
              clear hwq kk0 kk1 kk2
              go_wp2_with fail
              go_ret
              exact ⟨rfl, HA1.out.trans ((HBW.out.trans (HW.out.mono hsz)).mono HA1.out.size)⟩
            · by_cases f1 : (nx : Int) = I
              · have g1 : ((nx : Int) != I) = false := by simpa using f1
                have F1 := Lib.hid f1
                clear f1
                by_cases f2 : (nt : Int) = O
                · have g2 : ((nt : Int) != O) = false := by simpa using f2
                  have F2 := Lib.hid f2
                  clear f2
                  have HOK : Hid (pairOkB I O x = true) := Lib.hid (pairOk_yes HP.out HU.out (by rw [HLX.out]; exact F1.out) (by rw [HLT.out]; exact F2.out))
                  go_upto_region 6 with fail
                  have kk0 := cell_regrown hbx
                  have kk1 := cell_regrown c0
                  have kk2 := cell_regrown c1
                  have cC0 := fun d os => Calls.regrown_of (w := wr) (d := d) (os := os) (HVX.out _ ((below_regrown wr d os).mono hsz))
                  have CC0 := Lib.hid cC0
                  have cC1 := fun d os => Calls.regrown_of (w := wr) (d := d) (os := os) (HVT.out _ ((below_regrown wr d os).mono hsz))
                  have CC1 := Lib.hid cC1
                  have cC2 := fun d os => Calls.regrown_of (w := wr) (d := d) (os := os) (CI.out _ ((below_regrown wr d os).mono hsz))
                  have CC2 := Lib.hid cC2
                  have cC3 := fun d os => Calls.regrown_of (w := wr) (d := d) (os := os) (CO.out _ ((below_regrown wr d os).mono hsz))
                  have CC3 := Lib.hid cC3
                  clear hbx c0 c1 cC0 cC1 cC2 cC3
                  refine wp_region_quiet_below (by kernel_rfl) (by kernel_rfl) ?_
                  repeat (go_big_quiet_step (with_reducible first | exact CC0.out _ _ | exact CC1.out _ _ | exact CC2.out _ _ | exact CC3.out _ _))
                  refine wpQuiet_nil ?_
                  intro _ hw'
                  obtain ⟨⟨dq, osq⟩, hw''⟩ := hw'
                  subst hw''
                  have hwq := below_regrown wr dq osq
                  generalize grow (redrawn wr dq) osq = w3 at hwq ⊢
                  have HW := Lib.hid hwq
                  clear hwq kk0 kk1 kk2
                  go_wp2_with fail
                  go_round
                  case rel =>
                    refine ⟨k + 1, by omega, by go_num, Lib.hid fun i y hi hy => ?_, HBW.out.trans (HW.out.mono hsz)⟩
                    by_cases e : i = k
                    · subst e
                      have e2 := HX.out.symm.trans hy
                      cases e2
                      exact HOK.out
                    · exact hall.out i y (by omega) hy
                  case measure => simp [intOf]; omega
                · have g2 : ((nt : Int) != O) = true := by simpa using f2
                  have F2 : Hid (¬ (nt : Int) = O) := Lib.hid f2
                  clear f2
                  have hdf : d = false := by rw [HD.out]; exact batchOk_no HX.out (pairOk_o (by rw [HLT.out, HOO.out]; exact F2.out))
                  subst hdf
                  go_upto_region 6 with fail
                  have kk0 := cell_regrown hbx
                  have kk1 := cell_regrown c0
                  have kk2 := cell_regrown c1
                  have cC0 := fun d os => Calls.regrown_of (w := wr) (d := d) (os := os) (HVX.out _ ((below_regrown wr d os).mono hsz))
                  have CC0 := Lib.hid cC0
                  have cC1 := fun d os => Calls.regrown_of (w := wr) (d := d) (os := os) (HVT.out _ ((below_regrown wr d os).mono hsz))
                  have CC1 := Lib.hid cC1
                  have cC2 := fun d os => Calls.regrown_of (w := wr) (d := d) (os := os) (CI.out _ ((below_regrown wr d os).mono hsz))
                  have CC2 := Lib.hid cC2
                  have cC3 := fun d os => Calls.regrown_of (w := wr) (d := d) (os := os) (CO.out _ ((below_regrown wr d os).mono hsz))
                  have CC3 := Lib.hid cC3
                  clear hbx c0 c1 cC0 cC1 cC2 cC3
                  refine wp_region_quiet_below (by kernel_rfl) (by kernel_rfl) ?_
                  repeat (go_big_quiet_step (with_reducible first | exact CC0.out _ _ | exact CC1.out _ _ | exact CC2.out _ _ | exact CC3.out _ _))
                  refine wpQuiet_nil ?_
                  intro _ hw'
                  obtain ⟨⟨dq, osq⟩, hw''⟩ := hw'
                  subst hw''
                  have hwq := below_regrown wr dq osq
                  generalize grow (redrawn wr dq) osq = w3 at hwq ⊢
                  have HW := Lib.hid hwq
                  clear hwq kk0 kk1 kk2
                  go_wp2_with fail
                  go_ret
                  exact ⟨rfl, HA1.out.trans ((HBW.out.trans (HW.out.mono hsz)).mono HA1.out.size)⟩
              · have g1 : ((nx : Int) != I) = true := by simpa using f1
                have F1 : Hid (¬ (nx : Int) = I) := Lib.hid f1
                clear f1
                have hdf : d = false := by rw [HD.out]; exact batchOk_no HX.out (pairOk_i (by rw [HLX.out, HII.out]; exact F1.out))
                subst hdf
                go_upto_region 6 with fail
                have kk0 := cell_regrown hbx
                have kk1 := cell_regrown c0
                have kk2 := cell_regrown c1
                have cC0 := fun d os => Calls.regrown_of (w := wr) (d := d) (os := os) (HVX.out _ ((below_regrown wr d os).mono hsz))
                have CC0 := Lib.hid cC0
                have cC1 := fun d os => Calls.regrown_of (w := wr) (d := d) (os := os) (HVT.out _ ((below_regrown wr d os).mono hsz))
                have CC1 := Lib.hid cC1
                have cC2 := fun d os => Calls.regrown_of (w := wr) (d := d) (os := os) (CI.out _ ((below_regrown wr d os).mono hsz))
                have CC2 := Lib.hid cC2
                have cC3 := fun d os => Calls.regrown_of (w := wr) (d := d) (os := os) (CO.out _ ((below_regrown wr d os).mono hsz))
                have CC3 := Lib.hid cC3
                clear hbx c0 c1 cC0 cC1 cC2 cC3
                refine wp_region_quiet_below (by kernel_rfl) (by kernel_rfl) ?_
                repeat (go_big_quiet_step (with_reducible first | exact CC0.out _ _ | exact CC1.out _ _ | exact CC2.out _ _ | exact CC3.out _ _))
                refine wpQuiet_nil ?_
                intro _ hw'
                obtain ⟨⟨dq, osq⟩, hw''⟩ := hw'
                subst hw''
                have hwq := below_regrown wr dq osq
                generalize grow (redrawn wr dq) osq = w3 at hwq ⊢
                have HW := Lib.hid hwq
                clear hwq kk0 kk1 kk2
                go_wp2_with fail
                go_ret
                exact ⟨rfl, HA1.out.trans ((HBW.out.trans (HW.out.mono hsz)).mono HA1.out.size)⟩
        · obtain rfl : k = n' := by omega
          have hdt : d = true := by
            rw [HD.out]
            refine batchOk_yes HQ.out (by rw [HL.out.1]; exact HR.out) fun j x hx => ?_
            rw [HII.out, HOO.out]
            exact hall.out j x (by rw [← HL.out.1]; exact (List.getElem?_eq_some_iff.1 hx).1) hx
          subst hdt
          have HWW := Lib.hid hww
          clear hbw hww hbox
          go_wp2_with fail
          go_ret
          exact ⟨rfl, HWW.out⟩

theorem same_no {α : Type} [DecidableEq α] {xs ys : List α} {k : Nat} {x y : α} (hx : xs[k]? = some x) (hy : ys[k]? = some y) (h : x ≠ y) : decide (xs = ys) = false := decide_eq_false fun e => by
  subst e
  rw [hx] at hy
  cases hy
  exact h rfl
theorem same_yes {α : Type} [DecidableEq α] {xs ys : List α} (hl : xs.length = ys.length) (h : ∀ j, j < xs.length → xs[j]? = ys[j]?) : decide (xs = ys) = true := decide_eq_true (List.ext_getElem? fun j => by
  by_cases hj : j < xs.length
  · exact h j hj
  · rw [List.getElem?_eq_none (by omega), List.getElem?_eq_none (by omega)])
end Go.Proofs.Ytkflinobmagiiaa
