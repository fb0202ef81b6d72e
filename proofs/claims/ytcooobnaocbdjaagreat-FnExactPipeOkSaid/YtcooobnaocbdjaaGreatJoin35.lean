/-
  The program's functions on models.
-/
import Derived.Test.YtcooobnaocbdjaaGreatJoin25
import Derived.Test.YtcooobnaocbdjaaGreatJoin34
namespace Go.Proofs.YtcooobnaocbdjaaGreat
open Go.RowKit Go.Sort
set_option linter.unusedVariables false

def linkedB (m : List dOp) : Bool := (List.range m.length).all (okAt m)
theorem linked_no {m : List dOp} {k : Nat} (hk : k < m.length) (h : okAt m k = false) : linkedB m = false := range_some hk h
theorem linked_all {m : List dOp} (h : ∀ j, j < m.length → okAt m j = true) : linkedB m = true := range_all h
theorem modelOk_linked (m : List dOp) : modelOkB m = (linkedB m && inB 1 8 (m.length : Int)) := rfl
/-- The chain that is kept inside: that of a right model, or none. -/
def goodN (m : List dOp) : List dOp := if modelOkB m then m else []
theorem goodN_yes {m : List dOp} (h : modelOkB m = true) : goodN m = m := by unfold goodN; rw [if_pos h]
theorem goodN_no {m : List dOp} (h : modelOkB m = false) : goodN m = [] := by unfold goodN; rw [if_neg (by rw [h]; decide)]
theorem goodN_big {m : List dOp} (h : 8 < m.length) : goodN m = [] := goodN_no (by
  unfold modelOkB
  rw [inB_no (by omega), Bool.and_false])
theorem goodN_bad {m : List dOp} (h : linkedB m = false) : goodN m = [] := goodN_no (by rw [modelOk_linked, h]; rfl)
theorem goodN_good {m : List dOp} (h : linkedB m = true) (h8 : m.length ≤ 8) : goodN m = m := by
  by_cases h0 : m = []
  · subst h0; rfl
  · refine goodN_yes ?_
    rw [modelOk_linked, h, inB_yes (by have := List.length_pos_iff.2 h0; omega) (by omega)]
    rfl

set_option maxRecDepth 100000 in
set_option maxHeartbeats 3200000 in
theorem implLinked_c (w : World) (a : Option Addr) (n c : Nat) (m : List dOp) (h : ListAt shOp (Under w.heap.size) w a n m) (hb : (Shape.list shOp).bulk m ≤ 1048576) :
    Calls Tryz.prog 172 #[.slice a n c] w fun e w' => e = .returned (.bool (linkedB m)) ∧ Below w.heap.size w w' := by
  have hbk := bulk_list shOp h
  rw [hbk] at hb
  have hn1 : n ≤ 1048576 := by omega
  have HL := Lib.hid h
  have HB := Lib.hid hb
  obtain ⟨d, hd⟩ : ∃ d, d = linkedB m := ⟨_, rfl⟩
  rw [← hd]
  have HD := Lib.hid hd
  clear h hb hbk hd
  go_enter Tryz.func172, Tryz.ntmps172
  go_wp2_with fail
  go_loopw [7] (fun i wr => ∃ k : Nat, k ≤ n ∧ i = .int .i64 k ∧ Hid (∀ j, j < k → okAt m j = true) ∧ Below w.heap.size w wr) (fun i _ => n - (intOf i).toNat)
  case atStart => exact ⟨0, Nat.zero_le _, rfl, Lib.hid fun j hj => absurd hj (Nat.not_lt_zero _), Below.refl _ _⟩
  case round =>
    obtain ⟨k, hk, rfl, hall, hbw⟩ := hrel
    have hsz := hbw.size
    by_cases hlt : k < n
    · obtain ⟨x, hx⟩ : ∃ x, m[k]? = some x := ⟨_, List.getElem?_eq_getElem (by rw [HL.out.1]; exact hlt)⟩
      obtain ⟨b, o, es, rfl, hbB, hr, hs⟩ := HL.out.2 k x hx
      have hrr := rangeAt_kept hr (show b < w.heap.size from hbB) (Kept.of_below (I := Under w.heap.size) hbw fun b hb => hb)
      have hsw := shOp.below hs hbw (Nat.le_refl _)
      have hbx' : shOp.bulk x ≤ 1048576 := by have h1 := bulk_mem shOp.bulk m k x hx; have h2 := HB.out; omega
      rw [shOp_bulk, bulk_ints] at hbx'
      obtain ⟨ae, ne, ce, rfl, ge, le, me⟩ := shOp_reads.1 hsw
      have hal := (Below.refl wr.heap.size wr).alloc (Nat.le_refl _) (.cells #[.int .i64 x.1, .int .i64 x.2.1, .int .i64 x.2.2.1, .slice ae ne ce] 156 (0, 0))
      have hbk := heap_alloc_new wr (.cells #[.int .i64 x.1, .int .i64 x.2.1, .int .i64 x.2.2.1, .slice ae ne ce] 156 (0, 0))
      have HA := Lib.hid hal
      have HBK := Lib.hid hbk
      have HWA := Lib.hid (hbw.trans (hal.mono hsz))
      have HC := Lib.hid fun (w1 : World) (hb1 : Below (wr.alloc (.cells #[.int .i64 x.1, .int .i64 x.2.1, .int .i64 x.2.2.1, .slice ae ne ce] 156 (0, 0))).heap.size (wr.alloc (.cells #[.int .i64 x.1, .int .i64 x.2.1, .int .i64 x.2.2.1, .slice ae ne ce] 156 (0, 0))) w1) =>
        implOpOk_any w1 x.1 x.2.1 x.2.2.1 ae ne ce x.2.2.2 (((me.below ((hal.mono hsz).trans (hb1.mono (Nat.le_trans hsz hal.size))) (Nat.le_refl _)).ints (by rw [← me.1]; exact hbx')).le (Nat.le_trans hsz (Nat.le_trans hal.size hb1.size))) ge le
      rw [shOp_size] at hrr
      have c0 := hrr 0 _ rfl
      have c1 := hrr 1 _ rfl
      have c2 := hrr 2 _ rfl
      have c3 := hrr 3 _ rfl
      simp only [Nat.add_zero] at c0
      obtain ⟨p, hp⟩ : ∃ p, opOkB x.1 x.2.1 x.2.2.1 x.2.2.2 = p := ⟨_, rfl⟩
      simp only [hp] at HC
      have HX := Lib.hid hx
      have HP : Hid (dOpOk x = p) := Lib.hid hp
      have HBW := Lib.hid hbw
      clear hr hrr hs hsw me hx hp hbw hbx' hal hbk
      cases p
      · have hdf : d = false := by rw [HD.out]; exact linked_no (by rw [HL.out.1]; exact hlt) (okAt_bad HX.out HP.out)
        subst hdf
        go_upto_region 4 with fail
        clear c0 c1 c2 c3
        generalize wr.alloc (.cells #[.int .i64 x.1, .int .i64 x.2.1, .int .i64 x.2.2.1, .slice ae ne ce] 156 (0, 0)) = wa at HA HBK HWA HC ⊢
        have z0 := cell_of_row _ wr.heap.size 0 _ _ _ HBK.out
        have z1 := cell_of_row _ wr.heap.size 1 _ _ _ HBK.out
        have z2 := cell_of_row _ wr.heap.size 2 _ _ _ HBK.out
        have z3 := cell_of_row _ wr.heap.size 3 _ _ _ HBK.out
        simp only [List.getElem?_toArray, List.getElem?_cons_zero, List.getElem?_cons_succ] at z0 z1 z2 z3
        have kk0 := cell_regrown z0
        have kk1 := cell_regrown z1
        have kk2 := cell_regrown z2
        have kk3 := cell_regrown z3
        have cC0 := fun d os => Calls.regrown_of (w := wa) (d := d) (os := os) (HC.out _ (below_regrown wa d os))
        have CC0 := Lib.hid cC0
        clear z0 z1 z2 z3 cC0
        refine wp_region_quiet_below (by kernel_rfl) (by kernel_rfl) ?_
        repeat (go_big_quiet_step (with_reducible first | exact CC0.out _ _))
        refine wpQuiet_nil ?_
        intro _ hw'
        obtain ⟨⟨dq, osq⟩, hw''⟩ := hw'
        subst hw''
        have hwq := below_regrown wa dq osq
        generalize grow (redrawn wa dq) osq = w1 at hwq ⊢
        have HW := Lib.hid hwq
        clear hwq kk0 kk1 kk2 kk3
        go_wp2_with fail
        go_ret
        exact ⟨rfl, HWA.out.trans (HW.out.mono HWA.out.size)⟩
      · by_cases k0 : k = 0
        · have hgt : decide ((k : Int) > 0) = false := decide_eq_false (by omega)
          have h0k : ¬ 0 < k := by omega
          have HOK := Lib.hid (okAt_zero (k0 ▸ HX.out) HP.out)
          have HK0 := Lib.hid k0
          clear k0
          go_upto_region 4 with fail
          clear c0 c1 c2 c3
          generalize wr.alloc (.cells #[.int .i64 x.1, .int .i64 x.2.1, .int .i64 x.2.2.1, .slice ae ne ce] 156 (0, 0)) = wa at HA HBK HWA HC ⊢
          have z0 := cell_of_row _ wr.heap.size 0 _ _ _ HBK.out
          have z1 := cell_of_row _ wr.heap.size 1 _ _ _ HBK.out
          have z2 := cell_of_row _ wr.heap.size 2 _ _ _ HBK.out
          have z3 := cell_of_row _ wr.heap.size 3 _ _ _ HBK.out
          simp only [List.getElem?_toArray, List.getElem?_cons_zero, List.getElem?_cons_succ] at z0 z1 z2 z3
          have kk0 := cell_regrown z0
          have kk1 := cell_regrown z1
          have kk2 := cell_regrown z2
          have kk3 := cell_regrown z3
          have cC0 := fun d os => Calls.regrown_of (w := wa) (d := d) (os := os) (HC.out _ (below_regrown wa d os))
          have CC0 := Lib.hid cC0
          clear z0 z1 z2 z3 cC0
          refine wp_region_quiet_below (by kernel_rfl) (by kernel_rfl) ?_
          repeat (go_big_quiet_step (with_reducible first | exact CC0.out _ _))
          refine wpQuiet_nil ?_
          intro _ hw'
          obtain ⟨⟨dq, osq⟩, hw''⟩ := hw'
          subst hw''
          have hwq := below_regrown wa dq osq
          generalize grow (redrawn wa dq) osq = w1 at hwq ⊢
          have HW := Lib.hid hwq
          clear hwq kk0 kk1 kk2 kk3
          go_wp2_with fail
          go_round
          case rel =>
            refine ⟨k + 1, by omega, by go_num, Lib.hid fun j hj => ?_, HWA.out.trans (HW.out.mono HWA.out.size)⟩
            have hk0 := HK0.out
            obtain rfl : j = 0 := by omega
            exact hk0 ▸ HOK.out
          case measure => simp [intOf]; omega
        · obtain ⟨j, hj⟩ : ∃ j, k = j + 1 := ⟨k - 1, by omega⟩
          have hgt : decide ((k : Int) > 0) = true := decide_eq_true (by omega)
          have h0k : 0 < k := by omega
          have hw1 : wrap64 ((k : Int) - 1) = (j : Int) := by rw [IntWalk.wrap64_in _ (by omega)]; omega
          have hw2 : IntKind.i64.wrap ((k : Int) - 1) = (j : Int) := by rw [IntKind.wrap_i64]; omega
          have hjn : j < n := by omega
          obtain ⟨y, hy⟩ : ∃ y, m[j]? = some y := ⟨_, List.getElem?_eq_getElem (by rw [HL.out.1]; exact hjn)⟩
          obtain ⟨b', o', es', eb, hbB', hr', hs'⟩ := HL.out.2 j y hy
          cases eb
          have hrr' := rangeAt_kept hr' (show b < w.heap.size from hbB') (Kept.of_below (I := Under w.heap.size) HWA.out fun b hb => hb)
          obtain ⟨af, nf, cf, rfl, -⟩ := shOp_reads.1 hs'
          rw [shOp_size] at hrr'
          have e2 := hrr' 2 _ rfl
          have HOK := Lib.hid (okAt_next HX.out hy hj HP.out)
          clear hr' hrr' hs' hy hbB'
          have HJ := Lib.hid hj
          clear hj k0
          by_cases hxy : x.2.1 = y.2.2.1
          · have hne : (x.2.1 != y.2.2.1) = false := by simp [hxy]
            replace HOK := Lib.hid (HOK.out.trans (decide_eq_true hxy))
            clear hxy
            go_upto_region 4 with fail
            clear c0 c1 c2 c3
            generalize wr.alloc (.cells #[.int .i64 x.1, .int .i64 x.2.1, .int .i64 x.2.2.1, .slice ae ne ce] 156 (0, 0)) = wa at HA HBK HWA HC e2 ⊢
            have z0 := cell_of_row _ wr.heap.size 0 _ _ _ HBK.out
            have z1 := cell_of_row _ wr.heap.size 1 _ _ _ HBK.out
            have z2 := cell_of_row _ wr.heap.size 2 _ _ _ HBK.out
            have z3 := cell_of_row _ wr.heap.size 3 _ _ _ HBK.out
            simp only [List.getElem?_toArray, List.getElem?_cons_zero, List.getElem?_cons_succ] at z0 z1 z2 z3
            have kk0 := cell_regrown z0
            have kk1 := cell_regrown z1
            have kk2 := cell_regrown z2
            have kk3 := cell_regrown z3
            have kk4 := cell_regrown e2
            have cC0 := fun d os => Calls.regrown_of (w := wa) (d := d) (os := os) (HC.out _ (below_regrown wa d os))
            have CC0 := Lib.hid cC0
            clear z0 z1 z2 z3 e2 cC0
            refine wp_region_quiet_below (by kernel_rfl) (by kernel_rfl) ?_
            repeat (go_big_quiet_step (with_reducible first | exact CC0.out _ _))
            refine wpQuiet_nil ?_
            intro _ hw'
            obtain ⟨⟨dq, osq⟩, hw''⟩ := hw'
            subst hw''
            have hwq := below_regrown wa dq osq
            generalize grow (redrawn wa dq) osq = w1 at hwq ⊢
            have HW := Lib.hid hwq
            clear hwq kk0 kk1 kk2 kk3 kk4
            go_wp2_with fail
            go_round
            case rel =>
              refine ⟨k + 1, by omega, by go_num, Lib.hid fun i hi => ?_, HWA.out.trans (HW.out.mono HWA.out.size)⟩
              by_cases e : i = k
              · subst e; exact HOK.out
              · exact hall.out i (by omega)
            case measure => simp [intOf]; omega
          · have hne : (x.2.1 != y.2.2.1) = true := by simpa using hxy
            have hdf : d = false := by rw [HD.out]; exact linked_no (by rw [HL.out.1]; exact hlt) (HOK.out.trans (decide_eq_false hxy))
            subst hdf
            clear hxy
            go_upto_region 4 with fail
            clear c0 c1 c2 c3
            generalize wr.alloc (.cells #[.int .i64 x.1, .int .i64 x.2.1, .int .i64 x.2.2.1, .slice ae ne ce] 156 (0, 0)) = wa at HA HBK HWA HC e2 ⊢
            have z0 := cell_of_row _ wr.heap.size 0 _ _ _ HBK.out
            have z1 := cell_of_row _ wr.heap.size 1 _ _ _ HBK.out
            have z2 := cell_of_row _ wr.heap.size 2 _ _ _ HBK.out
            have z3 := cell_of_row _ wr.heap.size 3 _ _ _ HBK.out
            simp only [List.getElem?_toArray, List.getElem?_cons_zero, List.getElem?_cons_succ] at z0 z1 z2 z3
            have kk0 := cell_regrown z0
            have kk1 := cell_regrown z1
            have kk2 := cell_regrown z2
            have kk3 := cell_regrown z3
            have kk4 := cell_regrown e2
            have cC0 := fun d os => Calls.regrown_of (w := wa) (d := d) (os := os) (HC.out _ (below_regrown wa d os))
            have CC0 := Lib.hid cC0
            clear z0 z1 z2 z3 e2 cC0
            refine wp_region_quiet_below (by kernel_rfl) (by kernel_rfl) ?_
            repeat (go_big_quiet_step (with_reducible first | exact CC0.out _ _))
            refine wpQuiet_nil ?_
            intro _ hw'
            obtain ⟨⟨dq, osq⟩, hw''⟩ := hw'
            subst hw''
            have hwq := below_regrown wa dq osq
            generalize grow (redrawn wa dq) osq = w1 at hwq ⊢
            have HW := Lib.hid hwq
            clear hwq kk0 kk1 kk2 kk3 kk4
            go_wp2_with fail
            go_ret
            exact ⟨rfl, HWA.out.trans (HW.out.mono HWA.out.size)⟩
    · obtain rfl : k = n := by omega
      have hdt : d = true := by
        rw [HD.out]
        exact linked_all fun j hj => hall.out j (by rw [← HL.out.1]; exact hj)
      subst hdt
      have HWW := Lib.hid hbw
      clear hbw
      go_wp2_with fail
      go_ret
      exact ⟨rfl, HWW.out⟩
theorem noList {α : Type} {S : Shape α} (I : Nat → Prop) (w : World) : ListAt S I w none 0 [] := ⟨rfl, fun j x hx => by simp at hx⟩
theorem size_one (w : World) (o : Obj) : (w.alloc o).heap.size = w.heap.size + 1 := by simp
def GoodAt (w : World) (m : List dOp) (e : Ending) (w' : World) : Prop := ∃ (a : Option Addr) (n c : Nat), e = .returned (.agg #[.slice a n c]) ∧ ListAt shOp (Under w.heap.size) w a n (goodN m) ∧ n ≤ c ∧ c ≤ 9223372036854775807 ∧ Below w.heap.size w w'
set_option maxRecDepth 100000 in
set_option maxHeartbeats 3200000 in
theorem implModelOf_c (w : World) (a : Option Addr) (n c : Nat) (m : List dOp) (h : ListAt shOp (Under w.heap.size) w a n m) (hc1 : n ≤ c) (hc2 : c ≤ 9223372036854775807) (hb : (Shape.list shOp).bulk m ≤ 1048576) :
    Calls Tryz.prog 135 #[.agg #[.slice a n c]] w fun e w' => GoodAt w m e w' := by
  have hal : Below w.heap.size w ((w.alloc (.cells #[.slice a n c] 40 (0, 0))).alloc (.cells #[.slice none 0 0] 177 (0, 0))) := ((Below.refl _ _).alloc (Nat.le_refl _) _).alloc (by simp) _
  have hs0 : w.heap.size + 1 < ((w.alloc (.cells #[.slice a n c] 40 (0, 0))).alloc (.cells #[.slice none 0 0] 177 (0, 0))).heap.size := by simp
  have HLI := Lib.hid (implLinked_c _ a n c m ((h.below hal (Nat.le_refl _)).le hal.size) hb)
  have HL := Lib.hid h
  have hlen := h.1
  have HA := Lib.hid hal
  clear h hb hal
  by_cases h8 : 8 < n
  · have hg : decide ((n : Int) > 8) = true := decide_eq_true (by omega)
    have HE := Lib.hid (goodN_big (by rw [hlen]; exact h8))
    go_enter Tryz.func135, Tryz.ntmps135
    go_wp2_with fail
    refine bodyPost_ret (results_cell_row rfl _ _ (w.heap.size + 1) 177 #[.slice none 0 0] (0, 0) _ rfl ?_ Tryz.underlying177 rfl (by kernel_rfl)) rfl ?_
    · have := heap_alloc_new (w.alloc (.cells #[.slice a n c] 40 (0, 0))) (.cells #[.slice none 0 0] 177 (0, 0))
      simpa using this
    exact ⟨none, 0, 0, rfl, by rw [HE.out]; exact noList _ _, Nat.le_refl _, by omega, HA.out⟩
  · have hg : decide ((n : Int) > 8) = false := decide_eq_false (by omega)
    have hz := heap_alloc_new (w.alloc (.cells #[.slice a n c] 40 (0, 0))) (.cells #[.slice none 0 0] 177 (0, 0))
    rw [size_one] at hz
    cases hp : linkedB m with
    | false =>
      rw [hp] at HLI
      have HE := Lib.hid (goodN_bad hp)
      clear hp
      go_enter Tryz.func135, Tryz.ntmps135
      go_wp2_with fail
      refine HLI.out.mono ?_
      rintro e w1 ⟨rfl, hb⟩
      have HZ := Lib.hid ((hb.block _ hs0).trans hz)
      have HB := Lib.hid (HA.out.trans (hb.mono HA.out.size))
      have zb : w1.cell? ⟨w.heap.size + 1, 0, none⟩ = _ := cell_of_row _ _ _ _ _ _ HZ.out
      have fb : w1.frozen? ⟨w.heap.size + 1, 0, none⟩ = false := frozen_of_row _ _ _ _ _ HZ.out
      simp only [List.getElem?_toArray, List.getElem?_cons_zero] at zb
      clear hb hz
      go_wp2_with fail
      refine bodyPost_ret (results_cell_row rfl _ _ (w.heap.size + 1) 177 #[.slice none 0 0] (0, 0) _ rfl ?_ Tryz.underlying177 rfl (by kernel_rfl)) rfl ?_
      · simpa using heap_setCell_same w1 (w.heap.size + 1) 0 _ _ (.slice none 0 0) HZ.out
      exact ⟨none, 0, 0, rfl, by rw [HE.out]; exact noList _ _, Nat.le_refl _, by omega, HB.out.setCell (p := ⟨w.heap.size + 1, 0, none⟩) (by show w.heap.size ≤ w.heap.size + 1; omega) _⟩
    | true =>
      rw [hp] at HLI
      have HE := Lib.hid (goodN_good hp (by omega))
      clear hp
      go_enter Tryz.func135, Tryz.ntmps135
      go_wp2_with fail
      refine HLI.out.mono ?_
      rintro e w1 ⟨rfl, hb⟩
      have HZ := Lib.hid ((hb.block _ hs0).trans hz)
      have HB := Lib.hid (HA.out.trans (hb.mono HA.out.size))
      have zb : w1.cell? ⟨w.heap.size + 1, 0, none⟩ = _ := cell_of_row _ _ _ _ _ _ HZ.out
      have fb : w1.frozen? ⟨w.heap.size + 1, 0, none⟩ = false := frozen_of_row _ _ _ _ _ HZ.out
      simp only [List.getElem?_toArray, List.getElem?_cons_zero] at zb
      clear hb hz
      go_wp2_with fail
      refine bodyPost_ret (results_cell_row rfl _ _ (w.heap.size + 1) 177 #[.slice a n c] (0, 0) _ rfl ?_ Tryz.underlying177 rfl (by kernel_rfl)) rfl ?_
      · simpa using heap_setCell_same w1 (w.heap.size + 1) 0 _ _ (.slice a n c) HZ.out
      exact ⟨a, n, c, rfl, by rw [HE.out]; exact HL.out, hc1, hc2, HB.out.setCell (p := ⟨w.heap.size + 1, 0, none⟩) (by show w.heap.size ≤ w.heap.size + 1; omega) _⟩
def inG (g : List dOp) : Int := if g.length = 0 then 0 else (opAt g 0).2.1
def outG (g : List dOp) : Int := if g.length = 0 then 0 else (opAt g (g.length - 1)).2.2.1
set_option maxRecDepth 100000 in
set_option maxHeartbeats 3200000 in
theorem implOk_c (w : World) (a : Option Addr) (n c : Nat) :
    Calls Tryz.prog 136 #[.agg #[.slice a n c]] w fun e w' => e = .returned (.bool (decide (0 < n))) ∧ Below w.heap.size w w' := by
  have hal := (Below.refl w.heap.size w).alloc (Nat.le_refl _) (.cells #[.slice a n c] 177 (0, 0))
  have HA := Lib.hid hal
  clear hal
  go_enter Tryz.func136, Tryz.ntmps136
  go_wp2_with fail
  go_ret
  exact ⟨rfl, HA.out⟩
set_option maxRecDepth 100000 in
set_option maxHeartbeats 3200000 in
theorem implIn_c (w : World) (a : Option Addr) (n c : Nat) (g : List dOp) (h : ListAt shOp (Under w.heap.size) w a n g) (h8 : n ≤ 8) :
    Calls Tryz.prog 167 #[.slice a n c] w fun e w' => e = .returned (.int .i64 (inG g)) ∧ w = w' := by
  have hlen := h.1
  unfold inG
  by_cases h0 : n = 0
  · have hg : decide ((n : Int) = 0) = true := decide_eq_true (by omega)
    have hg2 : ((n : Int) == 0) = true := by simp [h0]
    rw [if_pos (by omega)]
    subst h0
    go_enter Tryz.func167, Tryz.ntmps167
    go_wp2_with fail
    go_ret
    exact ⟨rfl, rfl⟩
  · have hg2 : ((n : Int) == 0) = false := by simp [h0]
    rw [if_neg (by omega)]
    obtain ⟨j, hj⟩ : ∃ j : Nat, j = 0 := ⟨_, rfl⟩
    obtain ⟨x, hx⟩ : ∃ x, g[j]? = some x := ⟨_, List.getElem?_eq_getElem (by omega)⟩
    have hv : opAt g (0) = x := opAt_get (by rw [← hx]; congr 1; omega)
    rw [hv]
    obtain ⟨b, o, es, rfl, hbB, hr, hs⟩ := h.2 j x hx
    obtain ⟨ae, ne, ce, rfl, -⟩ := shOp_reads.1 hs
    rw [shOp_size] at hr
    have c0 := hr 1 _ rfl
    have hw1 : wrap64 ((n : Int) - 1) = ((n - 1 : Nat) : Int) := by rw [IntWalk.wrap64_in _ (by omega)]; omega
    have hpos : 0 < n := by omega
    subst hj
    simp only [Nat.zero_mul, Nat.add_zero] at c0
    clear hr hs hbB hv hx h
    go_enter Tryz.func167, Tryz.ntmps167
    go_wp2_with fail
    go_ret
    exact ⟨rfl, rfl⟩
set_option maxRecDepth 100000 in
set_option maxHeartbeats 3200000 in
theorem implOut_c (w : World) (a : Option Addr) (n c : Nat) (g : List dOp) (h : ListAt shOp (Under w.heap.size) w a n g) (h8 : n ≤ 8) :
    Calls Tryz.prog 168 #[.slice a n c] w fun e w' => e = .returned (.int .i64 (outG g)) ∧ w = w' := by
  have hlen := h.1
  unfold outG
  by_cases h0 : n = 0
  · have hg : decide ((n : Int) = 0) = true := decide_eq_true (by omega)
    have hg2 : ((n : Int) == 0) = true := by simp [h0]
    rw [if_pos (by omega)]
    subst h0
    go_enter Tryz.func168, Tryz.ntmps168
    go_wp2_with fail
    go_ret
    exact ⟨rfl, rfl⟩
  · have hg2 : ((n : Int) == 0) = false := by simp [h0]
    rw [if_neg (by omega)]
    obtain ⟨j, hj⟩ : ∃ j : Nat, j = n - 1 := ⟨_, rfl⟩
    obtain ⟨x, hx⟩ : ∃ x, g[j]? = some x := ⟨_, List.getElem?_eq_getElem (by omega)⟩
    have hv : opAt g (g.length - 1) = x := opAt_get (by rw [← hx]; congr 1; omega)
    rw [hv]
    obtain ⟨b, o, es, rfl, hbB, hr, hs⟩ := h.2 j x hx
    obtain ⟨ae, ne, ce, rfl, -⟩ := shOp_reads.1 hs
    rw [shOp_size] at hr
    have c0 := hr 2 _ rfl
    have hw1 : wrap64 ((n : Int) - 1) = ((n - 1 : Nat) : Int) := by rw [IntWalk.wrap64_in _ (by omega)]; omega
    have hpos : 0 < n := by omega
    subst hj
    clear hr hs hbB hv hx h
    obtain ⟨q, hq⟩ : ∃ q : Nat, n - 1 = q := ⟨_, rfl⟩
    have hqn : q < n := by omega
    have hw2 : (n : Int) - 1 = (q : Int) := by omega
    rw [hq] at c0 hw1
    go_enter Tryz.func168, Tryz.ntmps168
    go_wp2_with fail
    go_ret
    exact ⟨rfl, rfl⟩
theorem inG_good (m : List dOp) : inG (goodN m) = inOfN m := by
  unfold inOfN
  cases h : modelOkB m with
  | true => rw [goodN_yes h, if_pos rfl]; exact if_neg (by have := (modelOk_has h).2.1; omega)
  | false => rw [goodN_no h]; rfl
theorem outG_good (m : List dOp) : outG (goodN m) = outOfN m := by
  unfold outOfN
  cases h : modelOkB m with
  | true => rw [goodN_yes h, if_pos rfl]; exact if_neg (by have := (modelOk_has h).2.1; omega)
  | false => rw [goodN_no h]; rfl
theorem ok_good (m : List dOp) : decide (0 < (goodN m).length) = modelOkB m := by
  cases h : modelOkB m with
  | true => rw [goodN_yes h]; exact decide_eq_true (modelOk_has h).2.1
  | false => rw [goodN_no h]; rfl
end Go.Proofs.YtcooobnaocbdjaaGreat
