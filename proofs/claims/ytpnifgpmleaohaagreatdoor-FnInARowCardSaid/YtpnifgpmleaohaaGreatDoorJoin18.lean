import Derived.Test.YtpnifgpmleaohaaGreatDoorJoin8
import Derived.Test.YtpnifgpmleaohaaGreatDoorJoin17
import Derived.Test.YtpnifgpmleaohaaGreatDoorJoin16
import Derived.Deep.DeepCutAuto
/-! YtpnifgpmleaohaaGreatDoorZModI -/
section

namespace Go.Proofs.YtpnifgpmleaohaaGreatDoor
open Go.RowKit Go.Sort
set_option linter.unusedVariables false

def linkedB (m : List dOp) : Bool := (List.range m.length).all (okAt m)
theorem linked_no {m : List dOp} {k : Nat} (hk : k < m.length) (h : okAt m k = false) : linkedB m = false := range_some hk h
theorem linked_all {m : List dOp} (h : ∀ j, j < m.length → okAt m j = true) : linkedB m = true := range_all h
theorem modelOk_linked (m : List dOp) : modelOkB m = (linkedB m && inB 1 8 (m.length : Int)) := rfl
/-- The chain that is kept inside: that of a right model, or none. -/
def goodN (m : List dOp) : List dOp := if modelOkB m then m else []
theorem goodN_yes {m : List dOp} (h : modelOkB m = true) : goodN m = m := by unfold goodN; rw [if_pos h]
theorem goodN_no {m : List dOp} (h : modelOkB m = false) : goodN m = [] := by unfold goodN; rw [if_neg (by rw [h]; decide)]
theorem goodN_le (m : List dOp) : (goodN m).length ≤ 8 ∧ (Shape.list shOp).bulk (goodN m) ≤ (Shape.list shOp).bulk m := by
  cases h : modelOkB m with
  | true => rw [goodN_yes h]; exact ⟨(modelOk_has h).2.2, Nat.le_refl _⟩
  | false => rw [goodN_no h]; exact ⟨Nat.zero_le _, Nat.zero_le _⟩
theorem goodN_big {m : List dOp} (h : 8 < m.length) : goodN m = [] := goodN_no (by
  unfold modelOkB
  rw [inB_no (by omega), Bool.and_false])
theorem goodN_bad {m : List dOp} (h : linkedB m = false) : goodN m = [] := goodN_no (by rw [modelOk_linked, h]; rfl)
theorem goodN_good {m : List dOp} (h : linkedB m = true) (h8 : m.length ≤ 8) : goodN m = m := by
  by_cases h0 : m = []
  · subst h0; rfl
  · refine goodN_yes ?_
    rw [modelOk_linked, h, inB_yes (by have := List.length_pos_iff.2 h0; omega) (by omega)]
    rfl

set_option maxRecDepth 100000 in
set_option maxHeartbeats 3200000 in
theorem implLinked_c (w : World) (a : Option Addr) (n c : Nat) (m : List dOp) (h : ListAt shOp (Under w.heap.size) w a n m) (hb : (Shape.list shOp).bulk m ≤ 1048576) :
    Calls Tryz.prog 163 #[.slice a n c] w fun e w' => e = .returned (.bool (linkedB m)) ∧ Below w.heap.size w w' := by
  have hbk := bulk_list shOp h
  rw [hbk] at hb
  have hn1 : n ≤ 1048576 := by omega
  have HL := Lib.hid h
  have HB := Lib.hid hb
  obtain ⟨d, hd⟩ : ∃ d, d = linkedB m := ⟨_, rfl⟩
  rw [← hd]
  have HD := Lib.hid hd
  clear h hb hbk hd
  go_enter Tryz.func163, Tryz.ntmps163
  go_wp2_with fail
  go_loopw [7] (fun i wr => ∃ k : Nat, k ≤ n ∧ i = .int .i64 k ∧ Hid (∀ j, j < k → okAt m j = true) ∧ Below w.heap.size w wr) (fun i _ => n - (intOf i).toNat)
  case atStart => exact ⟨0, Nat.zero_le _, rfl, Lib.hid fun j hj => absurd hj (Nat.not_lt_zero _), Below.refl _ _⟩
  case round =>
    obtain ⟨k, hk, rfl, hall, hbw⟩ := hrel
    have hsz := hbw.size
    by_cases hlt : k < n
    · obtain ⟨x, hx⟩ : ∃ x, m[k]? = some x := ⟨_, List.getElem?_eq_getElem (by rw [HL.out.1]; exact hlt)⟩
      obtain ⟨b, o, es, rfl, hbB, hr, hs⟩ := HL.out.2 k x hx
      have hrr := rangeAt_kept hr (show b < w.heap.size from hbB) (Kept.of_below (I := Under w.heap.size) hbw fun b hb => hb)
      have hsw := shOp.below hs hbw (Nat.le_refl _)
      have hbx' : shOp.bulk x ≤ 1048576 := by have h1 := bulk_mem shOp.bulk m k x hx; have h2 := HB.out; omega
      rw [shOp_bulk, bulk_ints] at hbx'
      obtain ⟨ae, ne, ce, rfl, ge, le, me⟩ := shOp_reads.1 hsw
      have hal := (Below.refl wr.heap.size wr).alloc (Nat.le_refl _) (.cells #[.int .i64 x.1, .int .i64 x.2.1, .int .i64 x.2.2.1, .slice ae ne ce] 38 (0, 0))
      have hbk := heap_alloc_new wr (.cells #[.int .i64 x.1, .int .i64 x.2.1, .int .i64 x.2.2.1, .slice ae ne ce] 38 (0, 0))
      have HA := Lib.hid hal
      have HBK := Lib.hid hbk
      have HWA := Lib.hid (hbw.trans (hal.mono hsz))
      have HC := Lib.hid fun (w1 : World) (hb1 : Below (wr.alloc (.cells #[.int .i64 x.1, .int .i64 x.2.1, .int .i64 x.2.2.1, .slice ae ne ce] 38 (0, 0))).heap.size (wr.alloc (.cells #[.int .i64 x.1, .int .i64 x.2.1, .int .i64 x.2.2.1, .slice ae ne ce] 38 (0, 0))) w1) =>
        implOpOk_any w1 x.1 x.2.1 x.2.2.1 ae ne ce x.2.2.2 (((me.below ((hal.mono hsz).trans (hb1.mono (Nat.le_trans hsz hal.size))) (Nat.le_refl _)).ints (by rw [← me.1]; exact hbx')).le (Nat.le_trans hsz (Nat.le_trans hal.size hb1.size))) ge le
      rw [shOp_size] at hrr
      have c0 := hrr 0 _ rfl
      have c1 := hrr 1 _ rfl
      have c2 := hrr 2 _ rfl
      have c3 := hrr 3 _ rfl
      simp only [Nat.add_zero] at c0
      obtain ⟨p, hp⟩ : ∃ p, opOkB x.1 x.2.1 x.2.2.1 x.2.2.2 = p := ⟨_, rfl⟩
      simp only [hp] at HC
      have HX := Lib.hid hx
      have HP : Hid (dOpOk x = p) := Lib.hid hp
      have HBW := Lib.hid hbw
      clear hr hrr hs hsw me hx hp hbw hbx' hal hbk
      cases p
      · have hdf : d = false := by rw [HD.out]; exact linked_no (by rw [HL.out.1]; exact hlt) (okAt_bad HX.out HP.out)
        subst hdf
        go_upto_region 4 with fail
        clear c0 c1 c2 c3
        generalize wr.alloc (.cells #[.int .i64 x.1, .int .i64 x.2.1, .int .i64 x.2.2.1, .slice ae ne ce] 38 (0, 0)) = wa at HA HBK HWA HC ⊢
        have z0 := cell_of_row _ wr.heap.size 0 _ _ _ HBK.out
        have z1 := cell_of_row _ wr.heap.size 1 _ _ _ HBK.out
        have z2 := cell_of_row _ wr.heap.size 2 _ _ _ HBK.out
        have z3 := cell_of_row _ wr.heap.size 3 _ _ _ HBK.out
        simp only [List.getElem?_toArray, List.getElem?_cons_zero, List.getElem?_cons_succ] at z0 z1 z2 z3
        have kk0 := cell_regrown z0
        have kk1 := cell_regrown z1
        have kk2 := cell_regrown z2
        have kk3 := cell_regrown z3
        have cC0 := fun d os => Calls.regrown_of (w := wa) (d := d) (os := os) (HC.out _ (below_regrown wa d os))
        have CC0 := Lib.hid cC0
        clear z0 z1 z2 z3 cC0
        refine wp_region_quiet_below (by kernel_rfl) (by kernel_rfl) ?_
        repeat (go_big_quiet_step (with_reducible first | exact CC0.out _ _))
        refine wpQuiet_nil ?_
        intro _ hw'
        obtain ⟨⟨dq, osq⟩, hw''⟩ := hw'
        subst hw''
        have hwq := below_regrown wa dq osq
        generalize grow (redrawn wa dq) osq = w1 at hwq ⊢
        have HW := Lib.hid hwq
        clear hwq kk0 kk1 kk2 kk3
        go_wp2_with fail
        go_ret
        exact ⟨rfl, HWA.out.trans (HW.out.mono HWA.out.size)⟩
      · by_cases k0 : k = 0
        · have hgt : decide ((k : Int) > 0) = false := decide_eq_false (by omega)
          have h0k : ¬ 0 < k := by omega
          have HOK := Lib.hid (okAt_zero (k0 ▸ HX.out) HP.out)
          have HK0 := Lib.hid k0
          clear k0
          go_upto_region 4 with fail
          clear c0 c1 c2 c3
          generalize wr.alloc (.cells #[.int .i64 x.1, .int .i64 x.2.1, .int .i64 x.2.2.1, .slice ae ne ce] 38 (0, 0)) = wa at HA HBK HWA HC ⊢
          have z0 := cell_of_row _ wr.heap.size 0 _ _ _ HBK.out
          have z1 := cell_of_row _ wr.heap.size 1 _ _ _ HBK.out
          have z2 := cell_of_row _ wr.heap.size 2 _ _ _ HBK.out
          have z3 := cell_of_row _ wr.heap.size 3 _ _ _ HBK.out
          simp only [List.getElem?_toArray, List.getElem?_cons_zero, List.getElem?_cons_succ] at z0 z1 z2 z3
          have kk0 := cell_regrown z0
          have kk1 := cell_regrown z1
          have kk2 := cell_regrown z2
          have kk3 := cell_regrown z3
          have cC0 := fun d os => Calls.regrown_of (w := wa) (d := d) (os := os) (HC.out _ (below_regrown wa d os))
          have CC0 := Lib.hid cC0
          clear z0 z1 z2 z3 cC0
          refine wp_region_quiet_below (by kernel_rfl) (by kernel_rfl) ?_
          repeat (go_big_quiet_step (with_reducible first | exact CC0.out _ _))
          refine wpQuiet_nil ?_
          intro _ hw'
          obtain ⟨⟨dq, osq⟩, hw''⟩ := hw'
          subst hw''
          have hwq := below_regrown wa dq osq
          generalize grow (redrawn wa dq) osq = w1 at hwq ⊢
          have HW := Lib.hid hwq
          clear hwq kk0 kk1 kk2 kk3
          go_wp2_with fail
          go_round
          case rel =>
            refine ⟨k + 1, by omega, by go_num, Lib.hid fun j hj => ?_, HWA.out.trans (HW.out.mono HWA.out.size)⟩
            have hk0 := HK0.out
            obtain rfl : j = 0 := by omega
            exact hk0 ▸ HOK.out
          case measure => simp [intOf]; omega
        · obtain ⟨j, hj⟩ : ∃ j, k = j + 1 := ⟨k - 1, by omega⟩
          have hgt : decide ((k : Int) > 0) = true := decide_eq_true (by omega)
          have h0k : 0 < k := by omega
          have hw1 : wrap64 ((k : Int) - 1) = (j : Int) := by rw [IntWalk.wrap64_in _ (by omega)]; omega
          have hw2 : IntKind.i64.wrap ((k : Int) - 1) = (j : Int) := by rw [IntKind.wrap_i64]; omega
          have hjn : j < n := by omega
          obtain ⟨y, hy⟩ : ∃ y, m[j]? = some y := ⟨_, List.getElem?_eq_getElem (by rw [HL.out.1]; exact hjn)⟩
          obtain ⟨b', o', es', eb, hbB', hr', hs'⟩ := HL.out.2 j y hy
          cases eb
          have hrr' := rangeAt_kept hr' (show b < w.heap.size from hbB') (Kept.of_below (I := Under w.heap.size) HWA.out fun b hb => hb)
          obtain ⟨af, nf, cf, rfl, -⟩ := shOp_reads.1 hs'
          rw [shOp_size] at hrr'
          have e2 := hrr' 2 _ rfl
          have HOK := Lib.hid (okAt_next HX.out hy hj HP.out)
          clear hr' hrr' hs' hy hbB'
          have HJ := Lib.hid hj
          clear hj k0
          by_cases hxy : x.2.1 = y.2.2.1
          · have hne : (x.2.1 != y.2.2.1) = false := by simp [hxy]
            replace HOK := Lib.hid (HOK.out.trans (decide_eq_true hxy))
            clear hxy
            go_upto_region 4 with fail
            clear c0 c1 c2 c3
            generalize wr.alloc (.cells #[.int .i64 x.1, .int .i64 x.2.1, .int .i64 x.2.2.1, .slice ae ne ce] 38 (0, 0)) = wa at HA HBK HWA HC e2 ⊢
            have z0 := cell_of_row _ wr.heap.size 0 _ _ _ HBK.out
            have z1 := cell_of_row _ wr.heap.size 1 _ _ _ HBK.out
            have z2 := cell_of_row _ wr.heap.size 2 _ _ _ HBK.out
            have z3 := cell_of_row _ wr.heap.size 3 _ _ _ HBK.out
            simp only [List.getElem?_toArray, List.getElem?_cons_zero, List.getElem?_cons_succ] at z0 z1 z2 z3
            have kk0 := cell_regrown z0
            have kk1 := cell_regrown z1
            have kk2 := cell_regrown z2
            have kk3 := cell_regrown z3
            have kk4 := cell_regrown e2
            have cC0 := fun d os => Calls.regrown_of (w := wa) (d := d) (os := os) (HC.out _ (below_regrown wa d os))
            have CC0 := Lib.hid cC0
            clear z0 z1 z2 z3 e2 cC0
            refine wp_region_quiet_below (by kernel_rfl) (by kernel_rfl) ?_
            repeat (go_big_quiet_step (with_reducible first | exact CC0.out _ _))
            refine wpQuiet_nil ?_
            intro _ hw'
            obtain ⟨⟨dq, osq⟩, hw''⟩ := hw'
            subst hw''
            have hwq := below_regrown wa dq osq
            generalize grow (redrawn wa dq) osq = w1 at hwq ⊢
            have HW := Lib.hid hwq
            clear hwq kk0 kk1 kk2 kk3 kk4
            go_wp2_with fail
            go_round
            case rel =>
              refine ⟨k + 1, by omega, by go_num, Lib.hid fun i hi => ?_, HWA.out.trans (HW.out.mono HWA.out.size)⟩
              by_cases e : i = k
              · subst e; exact HOK.out
              · exact hall.out i (by omega)
            case measure => simp [intOf]; omega
          · have hne : (x.2.1 != y.2.2.1) = true := by simpa using hxy
            have hdf : d = false := by rw [HD.out]; exact linked_no (by rw [HL.out.1]; exact hlt) (HOK.out.trans (decide_eq_false hxy))
            subst hdf
            clear hxy
            go_upto_region 4 with fail
            clear c0 c1 c2 c3
            generalize wr.alloc (.cells #[.int .i64 x.1, .int .i64 x.2.1, .int .i64 x.2.2.1, .slice ae ne ce] 38 (0, 0)) = wa at HA HBK HWA HC e2 ⊢
            have z0 := cell_of_row _ wr.heap.size 0 _ _ _ HBK.out
            have z1 := cell_of_row _ wr.heap.size 1 _ _ _ HBK.out
            have z2 := cell_of_row _ wr.heap.size 2 _ _ _ HBK.out
            have z3 := cell_of_row _ wr.heap.size 3 _ _ _ HBK.out
            simp only [List.getElem?_toArray, List.getElem?_cons_zero, List.getElem?_cons_succ] at z0 z1 z2 z3
            have kk0 := cell_regrown z0
            have kk1 := cell_regrown z1
            have kk2 := cell_regrown z2
            have kk3 := cell_regrown z3
            have kk4 := cell_regrown e2
            have cC0 := fun d os => Calls.regrown_of (w := wa) (d := d) (os := os) (HC.out _ (below_regrown wa d os))
            have CC0 := Lib.hid cC0
            clear z0 z1 z2 z3 e2 cC0
            refine wp_region_quiet_below (by kernel_rfl) (by kernel_rfl) ?_
            repeat (go_big_quiet_step (with_reducible first | exact CC0.out _ _))
            refine wpQuiet_nil ?_
            intro _ hw'
            obtain ⟨⟨dq, osq⟩, hw''⟩ := hw'
            subst hw''
            have hwq := below_regrown wa dq osq
            generalize grow (redrawn wa dq) osq = w1 at hwq ⊢
            have HW := Lib.hid hwq
            clear hwq kk0 kk1 kk2 kk3 kk4
            go_wp2_with fail
            go_ret
            exact ⟨rfl, HWA.out.trans (HW.out.mono HWA.out.size)⟩
    · obtain rfl : k = n := by omega
      have hdt : d = true := by
        rw [HD.out]
        exact linked_all fun j hj => hall.out j (by rw [← HL.out.1]; exact hj)
      subst hdt
      have HWW := Lib.hid hbw
      clear hbw
      go_wp2_with fail
      go_ret
      exact ⟨rfl, HWW.out⟩
theorem noList {α : Type} {S : Shape α} (I : Nat → Prop) (w : World) : ListAt S I w none 0 [] := ⟨rfl, fun j x hx => by simp at hx⟩
theorem size_one (w : World) (o : Obj) : (w.alloc o).heap.size = w.heap.size + 1 := by simp
def GoodAt (w : World) (m : List dOp) (e : Ending) (w' : World) : Prop := ∃ (a : Option Addr) (n c : Nat), e = .returned (.agg #[.slice a n c]) ∧ ListAt shOp (Under w.heap.size) w a n (goodN m) ∧ n ≤ c ∧ c ≤ 9223372036854775807 ∧ Below w.heap.size w w'
set_option maxRecDepth 100000 in
set_option maxHeartbeats 3200000 in
theorem implModelOf_c (w : World) (a : Option Addr) (n c : Nat) (m : List dOp) (h : ListAt shOp (Under w.heap.size) w a n m) (hc1 : n ≤ c) (hc2 : c ≤ 9223372036854775807) (hb : (Shape.list shOp).bulk m ≤ 1048576) :
    Calls Tryz.prog 90 #[.agg #[.slice a n c]] w fun e w' => GoodAt w m e w' := by
  have hal : Below w.heap.size w ((w.alloc (.cells #[.slice a n c] 50 (0, 0))).alloc (.cells #[.slice none 0 0] 132 (0, 0))) := ((Below.refl _ _).alloc (Nat.le_refl _) _).alloc (by simp) _
  have hs0 : w.heap.size + 1 < ((w.alloc (.cells #[.slice a n c] 50 (0, 0))).alloc (.cells #[.slice none 0 0] 132 (0, 0))).heap.size := by simp
  have HLI := Lib.hid (implLinked_c _ a n c m ((h.below hal (Nat.le_refl _)).le hal.size) hb)
  have HL := Lib.hid h
  have hlen := h.1
  have HA := Lib.hid hal
  clear h hb hal
  by_cases h8 : 8 < n
  · have hg : decide ((n : Int) > 8) = true := decide_eq_true (by omega)
    have HE := Lib.hid (goodN_big (by rw [hlen]; exact h8))
    go_enter Tryz.func90, Tryz.ntmps90
    go_wp2_with fail
    refine bodyPost_ret (results_cell_row rfl _ _ (w.heap.size + 1) 132 #[.slice none 0 0] (0, 0) _ rfl ?_ Tryz.underlying132 rfl (by kernel_rfl)) rfl ?_
    · have := heap_alloc_new (w.alloc (.cells #[.slice a n c] 50 (0, 0))) (.cells #[.slice none 0 0] 132 (0, 0))
      simpa using this
    exact ⟨none, 0, 0, rfl, by rw [HE.out]; exact noList _ _, Nat.le_refl _, by omega, HA.out⟩
  · have hg : decide ((n : Int) > 8) = false := decide_eq_false (by omega)
    have hz := heap_alloc_new (w.alloc (.cells #[.slice a n c] 50 (0, 0))) (.cells #[.slice none 0 0] 132 (0, 0))
    rw [size_one] at hz
    cases hp : linkedB m with
    | false =>
      rw [hp] at HLI
      have HE := Lib.hid (goodN_bad hp)
      clear hp
      go_enter Tryz.func90, Tryz.ntmps90
      go_wp2_with fail
      refine HLI.out.mono ?_
      rintro e w1 ⟨rfl, hb⟩
      have HZ := Lib.hid ((hb.block _ hs0).trans hz)
      have HB := Lib.hid (HA.out.trans (hb.mono HA.out.size))
      have zb : w1.cell? ⟨w.heap.size + 1, 0, none⟩ = _ := cell_of_row _ _ _ _ _ _ HZ.out
      have fb : w1.frozen? ⟨w.heap.size + 1, 0, none⟩ = false := frozen_of_row _ _ _ _ _ HZ.out
      simp only [List.getElem?_toArray, List.getElem?_cons_zero] at zb
      clear hb hz
      go_wp2_with fail
      refine bodyPost_ret (results_cell_row rfl _ _ (w.heap.size + 1) 132 #[.slice none 0 0] (0, 0) _ rfl ?_ Tryz.underlying132 rfl (by kernel_rfl)) rfl ?_
      · simpa using heap_setCell_same w1 (w.heap.size + 1) 0 _ _ (.slice none 0 0) HZ.out
      exact ⟨none, 0, 0, rfl, by rw [HE.out]; exact noList _ _, Nat.le_refl _, by omega, HB.out.setCell (p := ⟨w.heap.size + 1, 0, none⟩) (by show w.heap.size ≤ w.heap.size + 1; omega) _⟩
    | true =>
      rw [hp] at HLI
      have HE := Lib.hid (goodN_good hp (by omega))
      clear hp
      go_enter Tryz.func90, Tryz.ntmps90
      go_wp2_with fail
      refine HLI.out.mono ?_
      rintro e w1 ⟨rfl, hb⟩
      have HZ := Lib.hid ((hb.block _ hs0).trans hz)
      have HB := Lib.hid (HA.out.trans (hb.mono HA.out.size))
      have zb : w1.cell? ⟨w.heap.size + 1, 0, none⟩ = _ := cell_of_row _ _ _ _ _ _ HZ.out
      have fb : w1.frozen? ⟨w.heap.size + 1, 0, none⟩ = false := frozen_of_row _ _ _ _ _ HZ.out
      simp only [List.getElem?_toArray, List.getElem?_cons_zero] at zb
      clear hb hz
      go_wp2_with fail
      refine bodyPost_ret (results_cell_row rfl _ _ (w.heap.size + 1) 132 #[.slice a n c] (0, 0) _ rfl ?_ Tryz.underlying132 rfl (by kernel_rfl)) rfl ?_
      · simpa using heap_setCell_same w1 (w.heap.size + 1) 0 _ _ (.slice a n c) HZ.out
      exact ⟨a, n, c, rfl, by rw [HE.out]; exact HL.out, hc1, hc2, HB.out.setCell (p := ⟨w.heap.size + 1, 0, none⟩) (by show w.heap.size ≤ w.heap.size + 1; omega) _⟩
def inG (g : List dOp) : Int := if g.length = 0 then 0 else (opAt g 0).2.1
def outG (g : List dOp) : Int := if g.length = 0 then 0 else (opAt g (g.length - 1)).2.2.1
set_option maxRecDepth 100000 in
set_option maxHeartbeats 3200000 in
theorem implIn_c (w : World) (a : Option Addr) (n c : Nat) (g : List dOp) (h : ListAt shOp (Under w.heap.size) w a n g) (h8 : n ≤ 8) :
    Calls Tryz.prog 95 #[.slice a n c] w fun e w' => e = .returned (.int .i64 (inG g)) ∧ w = w' := by
  have hlen := h.1
  unfold inG
  by_cases h0 : n = 0
  · have hg : decide ((n : Int) = 0) = true := decide_eq_true (by omega)
    have hg2 : ((n : Int) == 0) = true := by simp [h0]
    rw [if_pos (by omega)]
    subst h0
    go_enter Tryz.func95, Tryz.ntmps95
    go_wp2_with fail
    go_ret
    exact ⟨rfl, rfl⟩
  · have hg2 : ((n : Int) == 0) = false := by simp [h0]
    rw [if_neg (by omega)]
    obtain ⟨j, hj⟩ : ∃ j : Nat, j = 0 := ⟨_, rfl⟩
    obtain ⟨x, hx⟩ : ∃ x, g[j]? = some x := ⟨_, List.getElem?_eq_getElem (by omega)⟩
    have hv : opAt g (0) = x := opAt_get (by rw [← hx]; congr 1; omega)
    rw [hv]
    obtain ⟨b, o, es, rfl, hbB, hr, hs⟩ := h.2 j x hx
    obtain ⟨ae, ne, ce, rfl, -⟩ := shOp_reads.1 hs
    rw [shOp_size] at hr
    have c0 := hr 1 _ rfl
    have hw1 : wrap64 ((n : Int) - 1) = ((n - 1 : Nat) : Int) := by rw [IntWalk.wrap64_in _ (by omega)]; omega
    have hpos : 0 < n := by omega
    subst hj
    simp only [Nat.zero_mul, Nat.add_zero] at c0
    clear hr hs hbB hv hx h
    go_enter Tryz.func95, Tryz.ntmps95
    go_wp2_with fail
    go_ret
    exact ⟨rfl, rfl⟩
set_option maxRecDepth 100000 in
set_option maxHeartbeats 3200000 in
theorem implOut_c (w : World) (a : Option Addr) (n c : Nat) (g : List dOp) (h : ListAt shOp (Under w.heap.size) w a n g) (h8 : n ≤ 8) :
    Calls Tryz.prog 97 #[.slice a n c] w fun e w' => e = .returned (.int .i64 (outG g)) ∧ w = w' := by
  have hlen := h.1
  unfold outG
  by_cases h0 : n = 0
  · have hg : decide ((n : Int) = 0) = true := decide_eq_true (by omega)
    have hg2 : ((n : Int) == 0) = true := by simp [h0]
    rw [if_pos (by omega)]
    subst h0
    go_enter Tryz.func97, Tryz.ntmps97
    go_wp2_with fail
    go_ret
    exact ⟨rfl, rfl⟩
  · have hg2 : ((n : Int) == 0) = false := by simp [h0]
    rw [if_neg (by omega)]
    obtain ⟨j, hj⟩ : ∃ j : Nat, j = n - 1 := ⟨_, rfl⟩
    obtain ⟨x, hx⟩ : ∃ x, g[j]? = some x := ⟨_, List.getElem?_eq_getElem (by omega)⟩
    have hv : opAt g (g.length - 1) = x := opAt_get (by rw [← hx]; congr 1; omega)
    rw [hv]
    obtain ⟨b, o, es, rfl, hbB, hr, hs⟩ := h.2 j x hx
    obtain ⟨ae, ne, ce, rfl, -⟩ := shOp_reads.1 hs
    rw [shOp_size] at hr
    have c0 := hr 2 _ rfl
    have hw1 : wrap64 ((n : Int) - 1) = ((n - 1 : Nat) : Int) := by rw [IntWalk.wrap64_in _ (by omega)]; omega
    have hpos : 0 < n := by omega
    subst hj
    clear hr hs hbB hv hx h
    obtain ⟨q, hq⟩ : ∃ q : Nat, n - 1 = q := ⟨_, rfl⟩
    have hqn : q < n := by omega
    have hw2 : (n : Int) - 1 = (q : Int) := by omega
    rw [hq] at c0 hw1
    go_enter Tryz.func97, Tryz.ntmps97
    go_wp2_with fail
    go_ret
    exact ⟨rfl, rfl⟩
theorem inG_good (m : List dOp) : inG (goodN m) = inOfN m := by
  unfold inOfN
  cases h : modelOkB m with
  | true => rw [goodN_yes h, if_pos rfl]; exact if_neg (by have := (modelOk_has h).2.1; omega)
  | false => rw [goodN_no h]; rfl
theorem outG_good (m : List dOp) : outG (goodN m) = outOfN m := by
  unfold outOfN
  cases h : modelOkB m with
  | true => rw [goodN_yes h, if_pos rfl]; exact if_neg (by have := (modelOk_has h).2.1; omega)
  | false => rw [goodN_no h]; rfl
theorem pair_model {m : List dOp} {p : dPair} (h : pairOkB (inOfN m) (outOfN m) p = true) : modelOkB m = true := by
  cases hm : modelOkB m with
  | true => rfl
  | false =>
    unfold pairOkB inOfN at h
    rw [hm, if_neg (by decide)] at h
    simp only [Bool.and_eq_true, decide_eq_true_eq] at h
    obtain ⟨⟨⟨h1, -⟩, h2⟩, -⟩ := h
    unfold vecOkB at h1
    simp only [Bool.and_eq_true, decide_eq_true_eq] at h1
    have := h1.1.1
    omega
set_option maxRecDepth 100000 in
set_option maxHeartbeats 3200000 in
theorem implFits_c (w : World) (a : Option Addr) (n c : Nat) (g : List dOp) (h : ListAt shOp (Under w.heap.size) w a n g) (h8 : n ≤ 8) (ax at' : Option Addr) (nx cx nt ct : Nat) (p : dPair) (hx : IntsIn w.heap.size w ax nx p.1) (ht : IntsIn w.heap.size w at' nt p.2) :
    Calls Tryz.prog 91 #[.agg #[.slice a n c], .agg #[.slice ax nx cx, .slice at' nt ct]] w fun e w' => e = .returned (.bool (pairOkB (inG g) (outG g) p)) ∧ Below w.heap.size w w' := by
  have hal : Below w.heap.size w ((w.alloc (.cells #[.slice a n c] 132 (0, 0))).alloc (.cells #[.slice ax nx cx, .slice at' nt ct] 66 (0, 0))) := ((Below.refl _ _).alloc (Nat.le_refl _) _).alloc (by simp) _
  have hs0 : w.heap.size + 1 < ((w.alloc (.cells #[.slice a n c] 132 (0, 0))).alloc (.cells #[.slice ax nx cx, .slice at' nt ct] 66 (0, 0))).heap.size := by simp
  have hA : ((w.alloc (.cells #[.slice a n c] 132 (0, 0))).alloc (.cells #[.slice ax nx cx, .slice at' nt ct] 66 (0, 0))).heap[w.heap.size]? = some (.cells #[.slice a n c] 132 (0, 0)) := by
    rw [Below.heap_alloc _ _ _ (by simp)]
    exact heap_alloc_new w _
  have hC : ((w.alloc (.cells #[.slice a n c] 132 (0, 0))).alloc (.cells #[.slice ax nx cx, .slice at' nt ct] 66 (0, 0))).heap[w.heap.size + 1]? = some (.cells #[.slice ax nx cx, .slice at' nt ct] 66 (0, 0)) := by
    have := heap_alloc_new (w.alloc (.cells #[.slice a n c] 132 (0, 0))) (.cells #[.slice ax nx cx, .slice at' nt ct] 66 (0, 0))
    simpa using this
  have hlx := hx.len
  have hlt := ht.len
  have HVX := fun (w1 : World) (hb1 : Below w.heap.size w w1) => (implVecOk_any w1 ax nx cx p.1 ((hx.below hb1 (Nat.le_refl _)).le hb1.size)).mono fun e w' h => (⟨h.1, h.2 ▸ Below.refl _ _⟩ : e = .returned (.bool (vecOkB p.1)) ∧ Below w1.heap.size w1 w')
  have HVT := fun (w1 : World) (hb1 : Below w.heap.size w w1) => (implVecOk_any w1 at' nt ct p.2 ((ht.below hb1 (Nat.le_refl _)).le hb1.size)).mono fun e w' h => (⟨h.1, h.2 ▸ Below.refl _ _⟩ : e = .returned (.bool (vecOkB p.2)) ∧ Below w1.heap.size w1 w')
  have HI := fun (w1 : World) (hb1 : Below w.heap.size w w1) => (implIn_c w1 a n c g ((h.below hb1 (Nat.le_refl _)).le hb1.size) h8).mono fun e w' h => (⟨h.1, h.2 ▸ Below.refl _ _⟩ : e = .returned (.int .i64 (inG g)) ∧ Below w1.heap.size w1 w')
  have HO := fun (w1 : World) (hb1 : Below w.heap.size w w1) => (implOut_c w1 a n c g ((h.below hb1 (Nat.le_refl _)).le hb1.size) h8).mono fun e w' h => (⟨h.1, h.2 ▸ Below.refl _ _⟩ : e = .returned (.int .i64 (outG g)) ∧ Below w1.heap.size w1 w')
  obtain ⟨I, hI⟩ : ∃ I, inG g = I := ⟨_, rfl⟩
  obtain ⟨O, hO⟩ : ∃ O, outG g = O := ⟨_, rfl⟩
  rw [hI, hO]
  simp only [hI] at HI
  simp only [hO] at HO
  obtain ⟨q, hq⟩ : ∃ q, vecOkB p.1 = q := ⟨_, rfl⟩
  obtain ⟨u, hu⟩ : ∃ u, vecOkB p.2 = u := ⟨_, rfl⟩
  obtain ⟨d, hd⟩ : ∃ d, pairOkB I O p = d := ⟨_, rfl⟩
  rw [hd]
  have hdd : d = (q && u && decide ((nx : Int) = I) && decide ((nt : Int) = O)) := by rw [← hd, ← hq, ← hu, ← hlx, ← hlt]; rfl
  simp only [hq] at HVX
  simp only [hu] at HVT
  have HA := Lib.hid hal
  have XA := Lib.hid hA
  have XC := Lib.hid hC
  generalize hwa : (w.alloc (.cells #[.slice a n c] 132 (0, 0))).alloc (.cells #[.slice ax nx cx, .slice at' nt ct] 66 (0, 0)) = wa at HA XA XC hs0
  have CX := Lib.hid fun (w1 : World) (hb1 : Below wa.heap.size wa w1) => HVX w1 (HA.out.trans (hb1.mono HA.out.size))
  have CT := Lib.hid fun (w1 : World) (hb1 : Below wa.heap.size wa w1) => HVT w1 (HA.out.trans (hb1.mono HA.out.size))
  have CI := Lib.hid fun (w1 : World) (hb1 : Below wa.heap.size wa w1) => HI w1 (HA.out.trans (hb1.mono HA.out.size))
  have CO := Lib.hid fun (w1 : World) (hb1 : Below wa.heap.size wa w1) => HO w1 (HA.out.trans (hb1.mono HA.out.size))
  have HWA := Lib.hid hwa
  clear h hx ht hlx hlt HVX HVT HI HO hI hO hq hu hd hal hA hC hwa
  cases q
  · subst hdd
    go_enter Tryz.func91, Tryz.ntmps91
    go_upto_region 1 with fail
    rw [HWA.out]
    have z0 := cell_of_row _ w.heap.size 0 _ _ _ XA.out
    have y0 := cell_of_row _ (w.heap.size + 1) 0 _ _ _ XC.out
    have y1 := cell_of_row _ (w.heap.size + 1) 1 _ _ _ XC.out
    simp only [List.getElem?_toArray, List.getElem?_cons_zero, List.getElem?_cons_succ] at z0 y0 y1
    have kk0 := cell_regrown z0
    have kk1 := cell_regrown y0
    have kk2 := cell_regrown y1
    have cC0 := fun d os => Calls.regrown_of (w := wa) (d := d) (os := os) (CX.out _ (below_regrown wa d os))
    have CC0 := Lib.hid cC0
    have cC1 := fun d os => Calls.regrown_of (w := wa) (d := d) (os := os) (CT.out _ (below_regrown wa d os))
    have CC1 := Lib.hid cC1
    have cC2 := fun d os => Calls.regrown_of (w := wa) (d := d) (os := os) (CI.out _ (below_regrown wa d os))
    have CC2 := Lib.hid cC2
    have cC3 := fun d os => Calls.regrown_of (w := wa) (d := d) (os := os) (CO.out _ (below_regrown wa d os))
    have CC3 := Lib.hid cC3
    clear z0 y0 y1 cC0 cC1 cC2 cC3
    refine wp_region_quiet_below (by kernel_rfl) (by kernel_rfl) ?_
    repeat (go_big_quiet_step (with_reducible first | exact CC0.out _ _ | exact CC1.out _ _ | exact CC2.out _ _ | exact CC3.out _ _))
    refine wpQuiet_nil ?_
    intro _ hw'
    obtain ⟨⟨dq, osq⟩, hw''⟩ := hw'
    subst hw''
    have hwq := below_regrown wa dq osq
    generalize grow (redrawn wa dq) osq = w1 at hwq ⊢
    have HW := Lib.hid hwq
    clear hwq kk0 kk1 kk2
    go_wp2_with fail
    go_ret
    exact ⟨rfl, HA.out.trans (HW.out.mono HA.out.size)⟩
  · cases u
    · subst hdd
      go_enter Tryz.func91, Tryz.ntmps91
      go_upto_region 1 with fail
      rw [HWA.out]
      have z0 := cell_of_row _ w.heap.size 0 _ _ _ XA.out
      have y0 := cell_of_row _ (w.heap.size + 1) 0 _ _ _ XC.out
      have y1 := cell_of_row _ (w.heap.size + 1) 1 _ _ _ XC.out
      simp only [List.getElem?_toArray, List.getElem?_cons_zero, List.getElem?_cons_succ] at z0 y0 y1
      have kk0 := cell_regrown z0
      have kk1 := cell_regrown y0
      have kk2 := cell_regrown y1
      have cC0 := fun d os => Calls.regrown_of (w := wa) (d := d) (os := os) (CX.out _ (below_regrown wa d os))
      have CC0 := Lib.hid cC0
      have cC1 := fun d os => Calls.regrown_of (w := wa) (d := d) (os := os) (CT.out _ (below_regrown wa d os))
      have CC1 := Lib.hid cC1
      have cC2 := fun d os => Calls.regrown_of (w := wa) (d := d) (os := os) (CI.out _ (below_regrown wa d os))
      have CC2 := Lib.hid cC2
      have cC3 := fun d os => Calls.regrown_of (w := wa) (d := d) (os := os) (CO.out _ (below_regrown wa d os))
      have CC3 := Lib.hid cC3
      clear z0 y0 y1 cC0 cC1 cC2 cC3
      refine wp_region_quiet_below (by kernel_rfl) (by kernel_rfl) ?_
      repeat (go_big_quiet_step (with_reducible first | exact CC0.out _ _ | exact CC1.out _ _ | exact CC2.out _ _ | exact CC3.out _ _))
      refine wpQuiet_nil ?_
      intro _ hw'
      obtain ⟨⟨dq, osq⟩, hw''⟩ := hw'
      subst hw''
      have hwq := below_regrown wa dq osq
      generalize grow (redrawn wa dq) osq = w1 at hwq ⊢
      have HW := Lib.hid hwq
      clear hwq kk0 kk1 kk2
      go_wp2_with fail
      go_ret
      exact ⟨rfl, HA.out.trans (HW.out.mono HA.out.size)⟩
    · by_cases f1 : (nx : Int) = I
      · have g1 : ((nx : Int) == I) = true := by simpa using f1
        rw [decide_eq_true f1] at hdd
        clear f1
        by_cases f2 : (nt : Int) = O
        · have g2 : ((nt : Int) == O) = true := by simpa using f2
          rw [decide_eq_true f2] at hdd
          clear f2
          subst hdd
          go_enter Tryz.func91, Tryz.ntmps91
          go_upto_region 1 with fail
          rw [HWA.out]
          have z0 := cell_of_row _ w.heap.size 0 _ _ _ XA.out
          have y0 := cell_of_row _ (w.heap.size + 1) 0 _ _ _ XC.out
          have y1 := cell_of_row _ (w.heap.size + 1) 1 _ _ _ XC.out
          simp only [List.getElem?_toArray, List.getElem?_cons_zero, List.getElem?_cons_succ] at z0 y0 y1
          have kk0 := cell_regrown z0
          have kk1 := cell_regrown y0
          have kk2 := cell_regrown y1
          have cC0 := fun d os => Calls.regrown_of (w := wa) (d := d) (os := os) (CX.out _ (below_regrown wa d os))
          have CC0 := Lib.hid cC0
          have cC1 := fun d os => Calls.regrown_of (w := wa) (d := d) (os := os) (CT.out _ (below_regrown wa d os))
          have CC1 := Lib.hid cC1
          have cC2 := fun d os => Calls.regrown_of (w := wa) (d := d) (os := os) (CI.out _ (below_regrown wa d os))
          have CC2 := Lib.hid cC2
          have cC3 := fun d os => Calls.regrown_of (w := wa) (d := d) (os := os) (CO.out _ (below_regrown wa d os))
          have CC3 := Lib.hid cC3
          clear z0 y0 y1 cC0 cC1 cC2 cC3
          refine wp_region_quiet_below (by kernel_rfl) (by kernel_rfl) ?_
          repeat (go_big_quiet_step (with_reducible first | exact CC0.out _ _ | exact CC1.out _ _ | exact CC2.out _ _ | exact CC3.out _ _))
          refine wpQuiet_nil ?_
          intro _ hw'
          obtain ⟨⟨dq, osq⟩, hw''⟩ := hw'
          subst hw''
          have hwq := below_regrown wa dq osq
          generalize grow (redrawn wa dq) osq = w1 at hwq ⊢
          have HW := Lib.hid hwq
          clear hwq kk0 kk1 kk2
          go_wp2_with fail
          go_ret
          exact ⟨rfl, HA.out.trans (HW.out.mono HA.out.size)⟩
        · have g2 : ((nt : Int) == O) = false := by simpa using f2
          rw [decide_eq_false f2] at hdd
          clear f2
          subst hdd
          go_enter Tryz.func91, Tryz.ntmps91
          go_upto_region 1 with fail
          rw [HWA.out]
          have z0 := cell_of_row _ w.heap.size 0 _ _ _ XA.out
          have y0 := cell_of_row _ (w.heap.size + 1) 0 _ _ _ XC.out
          have y1 := cell_of_row _ (w.heap.size + 1) 1 _ _ _ XC.out
          simp only [List.getElem?_toArray, List.getElem?_cons_zero, List.getElem?_cons_succ] at z0 y0 y1
          have kk0 := cell_regrown z0
          have kk1 := cell_regrown y0
          have kk2 := cell_regrown y1
          have cC0 := fun d os => Calls.regrown_of (w := wa) (d := d) (os := os) (CX.out _ (below_regrown wa d os))
          have CC0 := Lib.hid cC0
          have cC1 := fun d os => Calls.regrown_of (w := wa) (d := d) (os := os) (CT.out _ (below_regrown wa d os))
          have CC1 := Lib.hid cC1
          have cC2 := fun d os => Calls.regrown_of (w := wa) (d := d) (os := os) (CI.out _ (below_regrown wa d os))
          have CC2 := Lib.hid cC2
          have cC3 := fun d os => Calls.regrown_of (w := wa) (d := d) (os := os) (CO.out _ (below_regrown wa d os))
          have CC3 := Lib.hid cC3
          clear z0 y0 y1 cC0 cC1 cC2 cC3
          refine wp_region_quiet_below (by kernel_rfl) (by kernel_rfl) ?_
          repeat (go_big_quiet_step (with_reducible first | exact CC0.out _ _ | exact CC1.out _ _ | exact CC2.out _ _ | exact CC3.out _ _))
          refine wpQuiet_nil ?_
          intro _ hw'
          obtain ⟨⟨dq, osq⟩, hw''⟩ := hw'
          subst hw''
          have hwq := below_regrown wa dq osq
          generalize grow (redrawn wa dq) osq = w1 at hwq ⊢
          have HW := Lib.hid hwq
          clear hwq kk0 kk1 kk2
          go_wp2_with fail
          go_ret
          exact ⟨rfl, HA.out.trans (HW.out.mono HA.out.size)⟩
      · have g1 : ((nx : Int) == I) = false := by simpa using f1
        rw [decide_eq_false f1] at hdd
        clear f1
        subst hdd
        go_enter Tryz.func91, Tryz.ntmps91
        go_upto_region 1 with fail
        rw [HWA.out]
        have z0 := cell_of_row _ w.heap.size 0 _ _ _ XA.out
        have y0 := cell_of_row _ (w.heap.size + 1) 0 _ _ _ XC.out
        have y1 := cell_of_row _ (w.heap.size + 1) 1 _ _ _ XC.out
        simp only [List.getElem?_toArray, List.getElem?_cons_zero, List.getElem?_cons_succ] at z0 y0 y1
        have kk0 := cell_regrown z0
        have kk1 := cell_regrown y0
        have kk2 := cell_regrown y1
        have cC0 := fun d os => Calls.regrown_of (w := wa) (d := d) (os := os) (CX.out _ (below_regrown wa d os))
        have CC0 := Lib.hid cC0
        have cC1 := fun d os => Calls.regrown_of (w := wa) (d := d) (os := os) (CT.out _ (below_regrown wa d os))
        have CC1 := Lib.hid cC1
        have cC2 := fun d os => Calls.regrown_of (w := wa) (d := d) (os := os) (CI.out _ (below_regrown wa d os))
        have CC2 := Lib.hid cC2
        have cC3 := fun d os => Calls.regrown_of (w := wa) (d := d) (os := os) (CO.out _ (below_regrown wa d os))
        have CC3 := Lib.hid cC3
        clear z0 y0 y1 cC0 cC1 cC2 cC3
        refine wp_region_quiet_below (by kernel_rfl) (by kernel_rfl) ?_
        repeat (go_big_quiet_step (with_reducible first | exact CC0.out _ _ | exact CC1.out _ _ | exact CC2.out _ _ | exact CC3.out _ _))
        refine wpQuiet_nil ?_
        intro _ hw'
        obtain ⟨⟨dq, osq⟩, hw''⟩ := hw'
        subst hw''
        have hwq := below_regrown wa dq osq
        generalize grow (redrawn wa dq) osq = w1 at hwq ⊢
        have HW := Lib.hid hwq
        clear hwq kk0 kk1 kk2
        go_wp2_with fail
        go_ret
        exact ⟨rfl, HA.out.trans (HW.out.mono HA.out.size)⟩
theorem field_model (a : Option Addr) (n c : Nat) (w : World) : (Instr.field 132 (.agg #[.slice a n c]) 0).run Tryz.prog w = .ok (.slice a n c) w := by kernel_rfl
set_option maxRecDepth 100000 in
set_option maxHeartbeats 3200000 in
theorem implInOf_d (w : World) (es : List Value) (m : dModel) (h : shModel.reads (Under w.heap.size) w es m) (hb : shModel.bulk m ≤ 1048576) :
    Calls Tryz.prog 27 #[.agg es.toArray] w fun e w' => e = .returned (.int .i64 (inOfN m)) ∧ Below w.heap.size w w' := by
  obtain ⟨a, n, c, rfl, h1, h2, h3⟩ := shModel_reads.1 h
  have hal : Below w.heap.size w (w.alloc (.cells #[.slice a n c] 50 (0, 0))) := (Below.refl _ _).alloc (Nat.le_refl _) _
  have HM := Lib.hid (implModelOf_c _ a n c m ((h3.below hal (Nat.le_refl _)).le hal.size) h1 h2 hb)
  have hle := goodN_le m
  have hbb : (Shape.list shOp).bulk (goodN m) ≤ 1048576 := Nat.le_trans hle.2 hb
  have HG := Lib.hid hbb
  have HA := Lib.hid hal
  have HV := Lib.hid (inG_good m)
  have h8 := hle.1
  clear h h3 hb hal hle hbb
  go_enter Tryz.func27, Tryz.ntmps27
  go_wp2_with fail
  refine HM.out.mono ?_
  rintro e w1 ⟨a', n', c', rfl, hl, g1, g2, hb⟩
  have hlen := hl.1
  have HL := Lib.hid ((hl.below hb (Nat.le_refl _)).le hb.size)
  have HB := Lib.hid (HA.out.trans (hb.mono HA.out.size))
  clear hl hb
  have hfd : ∀ w : World, (Instr.field 132 (.agg #[.slice a' n' c']) 0).run Tryz.prog w = .ok (.slice a' n' c') w := fun w => field_model a' n' c' w
  go_wp2_with fail
  refine (implIn_c _ _ _ _ _ HL.out (by omega)).mono ?_
  rintro e w2 ⟨rfl, rfl⟩
  have HB2 := HB
  go_wp2_with fail
  go_ret
  exact ⟨by rw [← HV.out] <;> rfl, HB2.out⟩
end Go.Proofs.YtpnifgpmleaohaaGreatDoor

end

/-! YtpnifgpmleaohaaGreatDoorZMatTr -/
section

namespace Go.Proofs.YtpnifgpmleaohaaGreatDoor
open Go.RowKit
set_option linter.unusedVariables false

set_option maxRecDepth 100000 in
set_option maxHeartbeats 1600000 in
theorem implTranspose_any (w : World) (r c : Int) (a : Option Addr) (n cp : Nat) (xs : List Int) (h : IntsIn w.heap.size w a n xs) (hcp : n ≤ cp) (hcap : cp ≤ 9223372036854775807) :
    Calls Tryz.prog 286 #[.agg #[.int .i64 r, .int .i64 c, .slice a n cp]] w (MatV w (trR r c xs) (trC r c xs) (trN r c xs)) := by
  obtain ⟨i0, hi, hz0, hz1, hz2⟩ := info_parts Tryz.infoI64
  have hal : Below w.heap.size w ((w.alloc (.cells #[.int .i64 r, .int .i64 c, .slice a n cp] 245 (0, 0))).alloc (.cells #[.int .i64 0, .int .i64 0, .slice none 0 0] 245 (0, 0))) := ((Below.refl _ _).alloc (Nat.le_refl _) _).alloc (by simp) _
  have hb0 : ((w.alloc (.cells #[.int .i64 r, .int .i64 c, .slice a n cp] 245 (0, 0))).alloc (.cells #[.int .i64 0, .int .i64 0, .slice none 0 0] 245 (0, 0))).heap[w.heap.size]? = some (.cells #[.int .i64 r, .int .i64 c, .slice a n cp] 245 (0, 0)) := by
    rw [Below.heap_alloc _ _ _ (by simp)]
    exact heap_alloc_new w _
  have hb1 : ((w.alloc (.cells #[.int .i64 r, .int .i64 c, .slice a n cp] 245 (0, 0))).alloc (.cells #[.int .i64 0, .int .i64 0, .slice none 0 0] 245 (0, 0))).heap[w.heap.size + 1]? = some (.cells #[.int .i64 0, .int .i64 0, .slice none 0 0] 245 (0, 0)) := by
    have := heap_alloc_new (w.alloc (.cells #[.int .i64 r, .int .i64 c, .slice a n cp] 245 (0, 0))) (.cells #[.int .i64 0, .int .i64 0, .slice none 0 0] 245 (0, 0))
    simpa using this
  have hsz : w.heap.size + 1 < ((w.alloc (.cells #[.int .i64 r, .int .i64 c, .slice a n cp] 245 (0, 0))).alloc (.cells #[.int .i64 0, .int .i64 0, .slice none 0 0] 245 (0, 0))).heap.size := by simp
  have hl := h.len
  have HX := Lib.hid (h.below hal (Nat.le_refl _))
  have HM := fun (w : World) (h : IntsIn w.heap.size w a n xs) => implMatOk_any w r c a n cp xs h hcp hcap
  have HA := Lib.hid hal
  have HB0 := Lib.hid hb0
  have HB1 := Lib.hid hb1
  clear h hal hb0 hb1
  unfold trR trC trN
  cases hm : matOkB r c xs with
  | false =>
    rw [hm] at HM
    replace HM := Lib.hid HM
    clear hm hl
    go_enter Tryz.func286, Tryz.ntmps286
    go_wp2_with fail
    generalize (w.alloc (.cells #[.int .i64 r, .int .i64 c, .slice a n cp] 245 (0, 0))).alloc (.cells #[.int .i64 0, .int .i64 0, .slice none 0 0] 245 (0, 0)) = wa at HX HA HB0 HB1 hsz ⊢
    have hsa := HA.out.size
    refine (HM.out _ (HX.out.le hsa)).mono ?_
    rintro e w1 ⟨rfl, hb⟩
    have hr := (hb.block (w.heap.size + 1) hsz).trans HB1.out
    have HB := Lib.hid hb
    obtain ⟨⟨d0, d1, d2⟩, f0, f1, f2⟩ := cells3 hr
    have HR := Lib.hid hr
    clear hb hr
    go_wp2_with fail
    refine bodyPost_ret (results_cell_row rfl _ _ (w.heap.size + 1) 245 #[.int .i64 0, .int .i64 0, .slice none 0 0] (0, 0) _ rfl ?_ Tryz.underlying245 rfl (by kernel_rfl)) rfl ?_
    · exact store3 HR.out _ _ _
    exact ⟨_, rfl, Row.nil _ _, (((HA.out.trans (HB.out.mono hsa)).setCell (by simp) _).setCell (by simp) _).setCell (by simp) _⟩
  | true =>
    obtain ⟨m, q, rfl, rfl, ⟨m1, m6⟩, ⟨q1, q6⟩, hn, ha⟩ := matOkB_has hm
    rw [hl] at hn
    rw [hm] at HM
    replace HM := Lib.hid HM
    simp only [if_true, Int.toNat_natCast]
    obtain ⟨F, hF⟩ : ∃ F : Nat → Nat → Int, (fun k i => xs.getD (i * q + k) 0) = F := ⟨_, rfl⟩
    have hFc : ∀ k, mapK (F k) m = colOf m q xs k := fun k => by rw [← hF]; rfl
    have hFp : ∀ k i, F k i = xs.getD (i * q + k) 0 := fun k i => by rw [← hF]
    rw [hF]
    have GF := Lib.hid hFc
    have GP := Lib.hid hFp
    have HN := Lib.hid hn
    clear hm hl ha hF hFc hFp hn
    go_enter Tryz.func286, Tryz.ntmps286
    go_wp2_with fail
    generalize (w.alloc (.cells #[.int .i64 m, .int .i64 q, .slice a n cp] 245 (0, 0))).alloc (.cells #[.int .i64 0, .int .i64 0, .slice none 0 0] 245 (0, 0)) = wa at HX HA HB0 HB1 hsz ⊢
    have hsa := HA.out.size
    refine (HM.out _ (HX.out.le hsa)).mono ?_
    rintro e w1 ⟨rfl, hb⟩
    have hr1 := (hb.block (w.heap.size + 1) hsz).trans HB1.out
    have hr0 := (hb.block w.heap.size (by omega)).trans HB0.out
    have hs1 := hb.size
    have HX1 := Lib.hid (HX.out.below hb hsa)
    have HA1 := Lib.hid (HA.out.trans (hb.mono hsa))
    obtain ⟨⟨d0, d1, d2⟩, -⟩ := cells3 hr0
    have HR0 := Lib.hid hr0
    have HR1 := Lib.hid hr1
    clear hb hr0 hr1 HX HA HB0 HB1
    go_upto_region 4 with fail
    clear d0 d1 d2
    have hb := (Below.refl w1.heap.size w1).alloc (Nat.le_refl _) (.cells #[.int .i64 q, .int .i64 m, .slice none 0 0] 245 (0, 0))
    have hbx := heap_alloc_new w1 (.cells #[.int .i64 q, .int .i64 m, .slice none 0 0] 245 (0, 0))
    have hs2 : w1.heap.size + 1 ≤ (w1.alloc (.cells #[.int .i64 q, .int .i64 m, .slice none 0 0] 245 (0, 0))).heap.size := by simp
    generalize w1.alloc (.cells #[.int .i64 q, .int .i64 m, .slice none 0 0] 245 (0, 0)) = wb at hb hbx hs2 ⊢
    have HBB := Lib.hid hb
    have HBX := Lib.hid hbx
    clear hb hbx
    obtain ⟨⟨d0, d1, d2⟩, -⟩ := cells3 ((HBB.out.block w.heap.size (by omega)).trans HR0.out)
    go_wp2_with fail
    clear d0 d1 d2
    go_loopw [17] (fun i wr => ∃ (j : Nat) (v : Value), j ≤ q ∧ i = .int .i64 j ∧ Row (w1.heap.size + 1) wr v (gridK F m j) ∧ wr.heap[w1.heap.size]? = some (.cells #[.int .i64 q, .int .i64 m, v] 245 (0, 0)) ∧ Below w1.heap.size w1 wr ∧ w1.heap.size + 1 ≤ wr.heap.size) (fun i _ => q - (intOf i).toNat)
    case atStart => exact ⟨0, .slice none 0 0, Nat.zero_le _, rfl, Row.nil _ _, HBX.out, HBB.out, hs2⟩
    case round =>
      obtain ⟨j, v, hj, rfl, hrow, hbx, hb, hs⟩ := hrel
      have HR := Lib.hid hrow
      have HX0 := Lib.hid hbx
      have HB := Lib.hid hb
      have hr0 := (hb.block w.heap.size (by omega)).trans HR0.out
      obtain ⟨⟨g0, g1, g2⟩, -⟩ := cells3 hr0
      have HR00 := Lib.hid hr0
      clear hrow hbx hb hr0
      by_cases hlj : j < q
      · go_wp2_with fail
        clear g0 g1 g2
        go_loopw [22] (fun k wr => ∃ (l : Nat) (u : Value), l ≤ m ∧ k = .int .i64 l ∧ Row (w1.heap.size + 1) wr u (gridK F m j ++ mapK (F j) l) ∧ wr.heap[w1.heap.size]? = some (.cells #[.int .i64 q, .int .i64 m, u] 245 (0, 0)) ∧ Below w1.heap.size w1 wr ∧ w1.heap.size + 1 ≤ wr.heap.size) (fun k _ => m - (intOf k).toNat)
        case atStart => exact ⟨0, v, Nat.zero_le _, rfl, by rw [mapK, List.append_nil]; exact HR.out, HX0.out, HB.out, hs⟩
        case round =>
          obtain ⟨l, u, hl, rfl, hrow, hbx, hb, hs'⟩ := hrel
          have hlen : (gridK F m j ++ mapK (F j) l).length = j * m + l := by rw [List.length_append, gridK_length, mapK_length]
          by_cases hll : l < m
          · have hp : l * q + j < n := by rw [HN.out]; exact place_lt hll hlj
            obtain ⟨b, o, rfl, hbB, hcell0⟩ := HX1.out.cells (l * q + j) hp
            obtain ⟨X, hX⟩ : ∃ X, X = xs.getD (l * q + j) 0 := ⟨_, rfl⟩
            obtain ⟨Q, hQ⟩ : ∃ Q, l * q = Q := ⟨_, rfl⟩
            have eF : F j l = X := by rw [GP.out, hX]
            have e2 : gridK F m j ++ mapK (F j) (l + 1) = (gridK F m j ++ mapK (F j) l) ++ [X] := by rw [mapK, eF, List.append_assoc]
            obtain ⟨P, hP⟩ : ∃ P, Q + j = P := ⟨_, rfl⟩
            rw [← hX, hQ, hP] at hcell0
            rw [hQ, hP] at hp
            have e1 : (l : Int) * (q : Int) = (Q : Int) := by rw [← hQ]; push_cast; rfl
            have hn36 : n ≤ 36 := by rw [HN.out]; exact le36 m6 q6
            have wQ : IntKind.i64.wrap (Q : Int) = (Q : Int) := by rw [IntKind.wrap_i64]; omega
            have wP : IntKind.i64.wrap ((Q : Int) + (j : Int)) = (P : Int) := by rw [IntKind.wrap_i64]; omega
            have HPP := Lib.hid hP
            clear hP
            obtain ⟨zs, hzs⟩ : ∃ zs, gridK F m j ++ mapK (F j) l = zs := ⟨_, rfl⟩
            have hz36 : zs.length ≤ 36 := by
              have h1 := place_lt hlj hll
              have h2 := le36 q6 m6
              rw [← hzs, hlen]
              omega
            rw [hzs] at hrow e2
            obtain ⟨a4, c4, rfl, -⟩ := hrow.form
            have hr0 := (hb.block w.heap.size (by omega)).trans HR0.out
            have hdr : Below wr.heap.size wr wr.drew := (Below.refl _ _).drew
            have hcell : wr.drew.cell? ⟨b, o + P, none⟩ = some (.int .i64 X) := (hb.cell (p := ⟨b, o + P, none⟩) (by show b < _; omega)).trans hcell0
            obtain ⟨⟨g0, g1, g2⟩, -⟩ := cells3 (show wr.drew.heap[w.heap.size]? = _ from hr0)
            obtain ⟨⟨d0, d1, d2⟩, f0, f1, f2⟩ := cells3 (show wr.drew.heap[w1.heap.size]? = _ from hbx)
            have HRD := Lib.hid (show Row (w1.heap.size + 1) (wr.alloc (.cells #[.int .i64 X] 3 (0, 0))).drew (.slice a4 zs.length c4) zs from World.ownsRow.alloc (show wr.drew.ownsRow _ _ _ _ _ _ from hrow.below hdr) _)
            have hBd : Below w1.heap.size w1 (wr.alloc (.cells #[.int .i64 X] 3 (0, 0))).drew := (hb.trans (hdr.mono (by omega))).alloc (by show w1.heap.size ≤ wr.heap.size; omega) _
            have HBD := Lib.hid hBd
            have hxd : (wr.alloc (.cells #[.int .i64 X] 3 (0, 0))).drew.heap[w1.heap.size]? = some (.cells #[.int .i64 q, .int .i64 m, .slice a4 zs.length c4] 245 (0, 0)) := (Below.heap_alloc _ _ _ (by show w1.heap.size < wr.heap.size; omega)).trans hbx
            have HXD := Lib.hid hxd
            have hnd : ∀ j u, (icells [X])[j]? = some u → ((wr.alloc (.cells #[.int .i64 X] 3 (0, 0))).drew).cell? ((⟨wr.heap.size, 0, none⟩ : Addr).add j) = some u := cell_num_put wr 3 X
            have HND := Lib.hid hnd
            have cx : (wr.alloc (.cells #[.int .i64 X] 3 (0, 0))).cell? ⟨w1.heap.size, 2, none⟩ = some (.slice a4 zs.length c4) := (cells3 hxd).1.2.2
            have hs5 : w1.heap.size + 1 ≤ ((wr.alloc (.cells #[.int .i64 X] 3 (0, 0))).drew).heap.size := by
              show w1.heap.size + 1 ≤ (wr.alloc (.cells #[.int .i64 X] 3 (0, 0))).heap.size
              rw [World.size_alloc]
              omega
            have HS5 := Lib.hid hs5
            clear hnd hs5
            have hsd : w1.heap.size + 1 ≤ wr.drew.heap.size := hs'
            have hwd : w.heap.size < wr.drew.heap.size := by show w.heap.size < wr.heap.size; omega
            have hbd : b < wr.drew.heap.size := by show b < wr.heap.size; omega
            have E2 := Lib.hid e2
            have HQ := Lib.hid hQ
            clear hX hQ eF e2 hcell0 hzs hlen hrow hbx hb hr0 hdr hBd hxd
            go_wp2_with fail
            go_region_law (first
              | (refine step_append_lies _ rfl (.tmp 26) (.tmp 37) 28 rfl (w1.heap.size + 1) 3 i0 (.int .i64 0) 1 8 Tryz.underlying28 hi hz0 hz1 hz2 rfl (by decide) _ _ _ (by simp [Act.eval]) HRD.out ⟨wr.heap.size, 0, none⟩ 1 1 (icells [X]) (by simp [Act.eval]) rfl HND.out (icells_one _) (by omega) (by unfold maxLen; omega) (by omega) (by simp; omega) _ rfl ?_; intro g cap w4 hown4 hgrow4 _ _; have hb4 := below_of_grown HRD.out hgrow4 (by simp; omega); have hx4 := (hb4.block w1.heap.size (Nat.lt_succ_self _)).trans HXD.out; have hs4 := Nat.le_trans HS5.out hb4.size; clear d0 d1 d2 f0 f1 f2; obtain ⟨⟨p0, p1, p2⟩, r0, r1, r2⟩ := cells3 hx4; have HX4 := Lib.hid hx4; have HB4 := Lib.hid (HBD.out.trans (hb4.mono (by omega))); have HO4 := Lib.hid hown4; clear hown4 hgrow4 hb4 hx4))
            all_goals
              go_wp2_with fail
              go_roundw
              case rel =>
                have hr : Row (w1.heap.size + 1) w4 (.slice (some ⟨g, 0, none⟩) (zs.length + 1) cap) (zs ++ [X]) := by
                  unfold Row
                  rw [icells_append, List.length_append]
                  exact HO4.out
                have hx := heap_setCell_same w4 w1.heap.size 2 _ _ (.slice (some ⟨g, 0, none⟩) (zs.length + 1) cap) HX4.out
                exact ⟨l + 1, .slice (some ⟨g, 0, none⟩) (zs.length + 1) cap, by omega, by go_num, by rw [E2.out]; exact hr.setBelow (Nat.lt_succ_self _) _, hx, HB4.out.setCell (Nat.le_refl _) _, by simp; omega⟩
              case measure => simp [intOf]; omega
          · obtain rfl : l = m := by omega
            have HR1 := Lib.hid hrow
            have HX1 := Lib.hid hbx
            have HB1 := Lib.hid hb
            clear hrow hbx hb
            go_wp2_with fail
            go_roundw
            case rel => exact ⟨j + 1, u, by omega, by go_num, HR1.out, HX1.out, HB1.out, hs'⟩
            case measure => simp [intOf]; omega
      · obtain rfl : j = q := by omega
        obtain ⟨a4, c4, rfl, -⟩ := HR.out.form
        obtain ⟨⟨d0, d1, d2⟩, f0, f1, f2⟩ := cells3 HX0.out
        have hr1 := (HB.out.block (w.heap.size + 1) (by omega)).trans HR1.out
        obtain ⟨⟨k0, k1, k2⟩, l0, l1, l2⟩ := cells3 hr1
        have HRR := Lib.hid hr1
        clear hr1
        go_wp2_with fail
        refine bodyPost_ret (results_cell_row rfl _ _ (w.heap.size + 1) 245 #[.int .i64 j, .int .i64 m, .slice a4 (gridK F m j).length c4] (0, 0) _ rfl ?_ Tryz.underlying245 rfl (by kernel_rfl)) rfl ?_
        · exact store3 HRR.out _ _ _
        exact ⟨_, rfl, (((HR.out.setBelow (by show w.heap.size + 1 < _; omega) _).setBelow (by show w.heap.size + 1 < _; omega) _).setBelow (by show w.heap.size + 1 < _; omega) _).le (by omega), (((HA1.out.trans (HB.out.mono (by omega))).setCell (by simp) _).setCell (by simp) _).setCell (by simp) _⟩
end Go.Proofs.YtpnifgpmleaohaaGreatDoor

end
