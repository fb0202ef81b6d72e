import Derived.Test.YtpnifgpmleaohaaGreatDoorJoin13
/-! YtpnifgpmleaohaaGreatDoorMark -/
section

namespace Go.Proofs.YtpnifgpmleaohaaGreatDoor
open Go.RowKit
set_option linter.unusedVariables false
set_option linter.unusedSimpArgs false

theorem sum_ones (xs : List Int) : Shape.sum Owned.int.ct xs = xs.length := by
  induction xs with
  | nil => rfl
  | cons x xs ih =>
    show 1 + Shape.sum Owned.int.ct xs = _
    rw [ih]
    simp
    omega
set_option maxRecDepth 100000 in
set_option maxHeartbeats 1600000 in
theorem markIntS_o (w : World) (F : Foot) (a : Option Addr) (n c : Nat) (xs : List Int) (k0 : Int) (h : OwnList Owned.int F w a n xs) (hb : (Shape.list Shape.int).bulk xs ≤ 1048576) (hk0 : 0 ≤ k0) (hc : k0 + (Shape.sum Owned.int.ct xs : Nat) ≤ 4611686018427387904) :
    Calls Tryz.prog 60 #[.slice a n c, .int .i64 k0] w fun e w' => e = .returned (.int .i64 (k0 + (Shape.sum Owned.int.ct xs : Nat))) ∧ OwnList Owned.int F w' a n (Owned.mkL Owned.int.mark Owned.int.ct xs k0) ∧ Touched F w w' := by
  have hlen := h.1
  rw [bulk_ints, hlen] at hb
  rw [sum_ones, hlen] at hc ⊢
  have HLEN := Lib.hid hlen
  by_cases hn : 0 < n
  · obtain ⟨b, o, G, rfl, hm⟩ := h.marking hn
    have HM := Lib.hid hm
    clear h hlen hm
    go_enter Tryz.func60, Tryz.ntmps60
    go_wp2_with fail
    go_loopw [5, 1] (fun i k wr => ∃ j : Nat, j ≤ n ∧ i = .int .i64 j ∧ k = .int .i64 (k0 + j) ∧ Marking Owned.int F w wr b o n G (part Owned.int.mark Owned.int.ct xs k0 j)) (fun i _ _ => n - (intOf i).toNat)
    case atStart => exact ⟨0, Nat.zero_le _, rfl, by simp, by rw [part_zero]; exact HM.out⟩
    case round =>
      obtain ⟨j, hj, rfl, rfl, hmk⟩ := hrel
      by_cases hlt : j < n
      · obtain ⟨x, hx⟩ : ∃ x, xs[j]? = some x := ⟨_, List.getElem?_eq_getElem (by rw [HLEN.out]; exact hlt)⟩
        have hy := (part_get Owned.int.mark Owned.int.ct xs k0 j (by rw [HLEN.out]; exact hj)).trans hx
        obtain ⟨es, hr, hs⟩ := hmk.elems j x hy
        have hs' : es = [.int .i64 x] := hs
        subst hs'
        have hth := there_cell hmk.there j (by show j < n * 1; omega)
        obtain ⟨⟨u, hu⟩, hf⟩ := hth
        have hp : Placing b (o + j * Owned.int.size) Owned.int.size (G j) wr wr [.int .i64 x] := ⟨Touched.refl _ _, there_part hmk.there (by omega) (by have := place_le (s := Owned.int.size) hlt; omega), hr, rfl⟩
        have hps := hp.store 0 (by decide) (.int .i64 (k0 + j))
        have hN := hmk.step (k := j) (x' := k0 + j) hlt hps.touched hps.range rfl
        have hct : (Shape.sum Owned.int.ct (xs.take j) : Nat) = j := by rw [sum_ones, List.length_take, HLEN.out]; omega
        have hps2 := part_succ Owned.int.mark Owned.int.ct xs k0 j x hx
        rw [hct] at hps2
        have hmv : Owned.int.mark x (k0 + j) = k0 + j := rfl
        rw [hmv] at hps2
        rw [← hps2] at hN
        have e1 : o + j * Owned.int.size + 0 = o + j := by show o + j * 1 + 0 = o + j; omega
        rw [e1] at hN
        have HN := Lib.hid hN
        clear hmk hr hs hp hps hN hct hps2 hmv e1 hx hy
        go_wp2_with fail
        go_round
        case rel => exact ⟨j + 1, by omega, by go_num, by congr 1; omega, HN.out⟩
        case measure => simp [intOf]; omega
      · obtain rfl : j = n := by omega
        have hfin := hmk.own
        rw [← HLEN.out, part_all] at hfin
        rw [HLEN.out] at hfin
        have HF := Lib.hid hfin
        have HT := Lib.hid hmk.touched
        clear hmk hfin
        go_wp2_with fail
        go_ret
        exact ⟨rfl, HF.out, HT.out⟩
  · obtain rfl : n = 0 := by omega
    obtain rfl : xs = [] := List.eq_nil_of_length_eq_zero hlen
    clear h hb hc
    go_enter Tryz.func60, Tryz.ntmps60
    go_wp2_with fail
    go_loop [5, 1] (fun i k => i = .int .i64 0 ∧ k = .int .i64 k0) (fun _ _ => 0)
    case atStart => exact ⟨rfl, rfl⟩
    case round =>
      obtain ⟨rfl, rfl⟩ := hrel
      go_wp2_with fail
      go_ret
      exact ⟨by simp, ⟨rfl, .inl rfl⟩, Touched.refl _ _⟩
theorem mkL_ints : ∀ (xs : List Int) (k : Int), Owned.mkL Owned.int.mark Owned.int.ct xs k = marks k xs.length
  | [], k => rfl
  | x :: xs, k => by
    show k :: Owned.mkL Owned.int.mark Owned.int.ct xs (k + 1) = _
    rw [mkL_ints xs (k + 1)]
    unfold marks
    rw [List.length_cons, List.range_succ_eq_map, List.map_cons, List.map_map]
    congr 1
    · simp
    · refine List.map_congr_left fun j _ => ?_
      simp only [Function.comp]
      push_cast
      omega
theorem heldIntS_o (w : World) (B : Nat) (a : Option Addr) (n c : Nat) (xs : List Int) (k0 : Int) (h : ListAt Shape.int (Under B) w a n (Owned.mkL Owned.int.mark Owned.int.ct xs k0)) (hb : (Shape.list Shape.int).bulk xs ≤ 1048576) (hk0 : 0 ≤ k0) (hc : k0 + (Shape.sum Owned.int.ct xs : Nat) ≤ 4611686018427387904) :
    Calls Tryz.prog 136 #[.slice a n c, .int .i64 k0] w fun e w' => e = .returned (.int .i64 (k0 + (Shape.sum Owned.int.ct xs : Nat))) ∧ w = w' := by
  have hlen : xs.length = n := by rw [← h.1, Owned.mkL_length]
  rw [bulk_ints, hlen] at hb
  rw [sum_ones, hlen]
  rw [sum_ones, hlen] at hc
  rw [mkL_ints, hlen] at h
  exact heldIntS_any B w a n c k0 (h.ints hb) hk0 (by omega)

set_option maxRecDepth 100000 in
set_option maxHeartbeats 3200000 in
theorem markOpS_o (w : World) (F : Foot) (a : Option Addr) (n c : Nat) (xs : List dOp) (k0 : Int) (h : OwnList ownOp F w a n xs) (hb : (Shape.list shOp).bulk xs ≤ 1048576) (hk0 : 0 ≤ k0) (hc : k0 + (Shape.sum ownOp.ct xs : Nat) ≤ 4611686018427387904) :
    Calls Tryz.prog 114 #[.slice a n c, .int .i64 k0] w fun e w' => e = .returned (.int .i64 (k0 + (Shape.sum ownOp.ct xs : Nat))) ∧ OwnList ownOp F w' a n (Owned.mkL ownOp.mark ownOp.ct xs k0) ∧ Touched F w w' := by
  have hlen := h.1
  have hbs : n + Shape.sum shOp.bulk xs ≤ 1048576 := by rw [← hlen]; exact hb
  have hn1 : n ≤ 1048576 := by omega
  have HB : Hid (Shape.sum shOp.bulk xs ≤ 1048576) := Lib.hid (by omega)
  clear hbs
  have HC := Lib.hid hc
  have HLEN := Lib.hid hlen
  obtain ⟨R, hR⟩ : ∃ R : Int, k0 + (Shape.sum ownOp.ct xs : Nat) = R := ⟨_, rfl⟩
  rw [hR]
  have HR := Lib.hid hR
  by_cases hn : 0 < n
  · obtain ⟨b, o, G, rfl, hm⟩ := h.marking hn
    have HM := Lib.hid hm
    clear h hb hc hlen hm hR
    go_enter Tryz.func114, Tryz.ntmps114
    go_wp2_with fail
    go_loopw [5, 1] (fun i k wr => ∃ (j : Nat) (V : Int), j ≤ n ∧ i = .int .i64 j ∧ k = .int .i64 V ∧ Hid (V = k0 + (Shape.sum ownOp.ct (xs.take j) : Nat)) ∧ Marking ownOp F w wr b o n G (part ownOp.mark ownOp.ct xs k0 j)) (fun i _ _ => n - (intOf i).toNat)
    case atStart => exact ⟨0, k0, Nat.zero_le _, rfl, rfl, Lib.hid (by simp [Shape.sum]), by rw [part_zero]; exact HM.out⟩
    case round =>
      obtain ⟨j, V, hj, rfl, rfl, hV, hmk⟩ := hrel
      by_cases hlt : j < n
      · obtain ⟨x, hx⟩ : ∃ x, xs[j]? = some x := ⟨_, List.getElem?_eq_getElem (by rw [HLEN.out]; exact hlt)⟩
        have hy := (part_get ownOp.mark ownOp.ct xs k0 j (by rw [HLEN.out]; exact hj)).trans hx
        obtain ⟨es, hr, hs⟩ := hmk.elems j x hy
        have hG := hmk.inF j
        have hst := sum_take ownOp.ct xs j x hx
        have hsl := sum_take_le ownOp.ct xs (j + 1)
        have hV0 : 0 ≤ V := by rw [hV.out]; omega
        have hVc : V + (ownOp.ct x : Nat) ≤ 4611686018427387904 := by have h1 := HC.out; have h2 := hV.out; omega
        have hbx : shOp.bulk x ≤ 1048576 := by have h1 := bulk_mem shOp.bulk xs j x hx; have h2 := HB.out; omega
        have HST := Lib.hid hst
        have HX := Lib.hid hx
        have HMK := Lib.hid hmk
        have hp : Placing b (o + j * ownOp.size) ownOp.size (G j) wr wr es := ⟨Touched.refl _ _, there_part hmk.there (by omega) (by have := place_le (s := ownOp.size) hlt; omega), hr, ownOp.owns_len hs⟩
        obtain ⟨a0_, n0_, c0_, rfl, ⟨x0, y0, l0⟩⟩ := ownOp_owns.1 hs
        rw [ownOp_size] at hp
        have hA : ∀ b' o', G j b' o' → ¬ Cells b (o + j * 4) 4 b' o' := fun b' o' g c => (hG b' o' g).2 ⟨c.1, by have := c.2.1; omega, by have := place_le (s := 4) hlt; have h3 := c.2.2; rw [ownOp_size]; omega⟩
        rw [shOp_bulk] at hbx
        have hct : ownOp.ct x = 3 + Shape.sum Owned.int.ct x.2.2.2 := by simp only [ownOp, Owned.struct, OwnedFields.cons, OwnedFields.last, Owned.int, Owned.bool, Owned.list]; omega
        rw [hct] at hVc
        have c0 := hp.range 0 _ rfl
        have f0 := (hp.there 0 (by omega)).2
        have c1 := hp.range 1 _ rfl
        have f1 := (hp.there 1 (by omega)).2
        have c2 := hp.range 2 _ rfl
        have f2 := (hp.there 2 (by omega)).2
        have c3 := hp.range 3 _ rfl
        have f3 := (hp.there 3 (by omega)).2
        simp only [Nat.add_zero] at c0 f0
        have hp0 := (((hp.store 0 (by omega) (.int .i64 (V))).store 1 (by omega) (.int .i64 (V + 1))).store 2 (by omega) (.int .i64 (V + 1 + 1)))
        have m0_0 := (OwnList.keep (OwnList.keep (OwnList.keep l0 (Placing.same (b := b) (o := o + j * 4) (s := 4) (G := G j) 0 (by omega) (.int .i64 (V)) (fun _ _ g => g) hA)) (Placing.same (b := b) (o := o + j * 4) (s := 4) (G := G j) 1 (by omega) (.int .i64 (V + 1)) (fun _ _ g => g) hA)) (Placing.same (b := b) (o := o + j * 4) (s := 4) (G := G j) 2 (by omega) (.int .i64 (V + 1 + 1)) (fun _ _ g => g) hA))
        have HP := Lib.hid hp0
        have HL0 := Lib.hid m0_0
        clear hp hp0 m0_0 l0
        have HCt : Hid (V + 1 + 1 + 1 + (Shape.sum Owned.int.ct x.2.2.2 : Nat) ≤ 4611686018427387904) := Lib.hid (by omega)
        go_wp2_with fail
        clear c0 f0 c1 f1 c2 f2 c3 f3
        generalize (((wr.setCell ⟨b, o + j * 4, none⟩ (.int .i64 (V))).setCell ⟨b, o + j * 4 + 1, none⟩ (.int .i64 (V + 1))).setCell ⟨b, o + j * 4 + 2, none⟩ (.int .i64 (V + 1 + 1))) = we0 at HP HL0 ⊢
        refine (markIntS_o we0 _ _ _ _ _ (V + 1 + 1 + 1) HL0.out (by omega) (by omega) HCt.out).mono ?_
        rintro e w1 ⟨rfl, ho0, ht0⟩
        clear HCt
        have hpq0 := HP.out.call ht0 (fun _ _ g => g) hA
        have l0 := ho0
        clear HP HL0 ht0
        obtain ⟨V0, hV0⟩ : ∃ V', V + 1 + 1 + 1 + (Shape.sum Owned.int.ct x.2.2.2 : Nat) = V' := ⟨_, rfl⟩
        rw [hV0]
        have HV0 := Lib.hid hV0
        have hVb0 : 0 ≤ V0 ∧ V0 ≤ 4611686018427387904 := by omega
        clear hV0
        have c0 := hpq0.range 0 _ rfl
        have f0 := (hpq0.there 0 (by omega)).2
        have c1 := hpq0.range 1 _ rfl
        have f1 := (hpq0.there 1 (by omega)).2
        have c2 := hpq0.range 2 _ rfl
        have f2 := (hpq0.there 2 (by omega)).2
        have c3 := hpq0.range 3 _ rfl
        have f3 := (hpq0.there 3 (by omega)).2
        simp only [Nat.add_zero] at c0 f0
        have hown := ownOp_owns (F := G j) (d := ((V), (V + 1), (V + 1 + 1), (Owned.mkL Owned.int.mark Owned.int.ct x.2.2.2 (V + 1 + 1 + 1)))).2 ⟨_, _, _, rfl, ⟨x0, y0, l0⟩⟩
        have hmv : ownOp.mark x V = ((V), (V + 1), (V + 1 + 1), (Owned.mkL Owned.int.mark Owned.int.ct x.2.2.2 (V + 1 + 1 + 1))) := by
          simp only [ownOp, Owned.struct, OwnedFields.cons, OwnedFields.last, Owned.int, Owned.bool, Owned.list]
          try simp
          try (refine ⟨?_, ?_⟩ <;> rfl)
        have hN := HMK.out.step (k := j) (es' := _) hlt (by rw [ownOp_size]; exact hpq0.touched) (by rw [ownOp_size]; exact hpq0.range) hown
        rw [← hmv, hV.out, ← part_succ ownOp.mark ownOp.ct xs k0 j x HX.out] at hN
        have HN := Lib.hid hN
        clear hN hown hmv 
        go_wp2_with fail
        go_round
        case rel => exact ⟨j + 1, _, by omega, by go_num, rfl, Lib.hid (by have e1 := HST.out; have e2 := hV.out; have g0 := HV0.out; rw [e1]; rw [hct]; omega), HN.out⟩
        case measure => simp [intOf]; omega
      · obtain rfl : j = n := by omega
        have hVR : V = R := by
          have e1 := hV.out
          rw [List.take_of_length_le (by rw [HLEN.out]; exact Nat.le_refl _), HR.out] at e1
          exact e1
        subst hVR
        have hfin := hmk.own
        rw [← HLEN.out, part_all] at hfin
        rw [HLEN.out] at hfin
        have HF := Lib.hid hfin
        have HT := Lib.hid hmk.touched
        clear hmk hfin
        go_wp2_with fail
        go_ret
        exact ⟨rfl, HF.out, HT.out⟩
  · obtain rfl : n = 0 := by omega
    obtain rfl : xs = [] := List.eq_nil_of_length_eq_zero hlen
    have hR0 : R = k0 := by rw [← hR]; simp [Shape.sum]
    subst hR0
    clear h hb hc hR HR HC
    go_enter Tryz.func114, Tryz.ntmps114
    go_wp2_with fail
    go_loop [5, 1] (fun i k => i = .int .i64 0 ∧ k = .int .i64 R) (fun _ _ => 0)
    case atStart => exact ⟨rfl, rfl⟩
    case round =>
      obtain ⟨rfl, rfl⟩ := hrel
      go_wp2_with fail
      go_ret
      exact ⟨rfl, ⟨rfl, .inl rfl⟩, Touched.refl _ _⟩
set_option maxRecDepth 100000 in
set_option maxHeartbeats 1600000 in
theorem heldOpS_o (w : World) (B : Nat) (a : Option Addr) (n c : Nat) (xs : List dOp) (k0 : Int) (h : ListAt shOp (Under B) w a n (Owned.mkL ownOp.mark ownOp.ct xs k0)) (hb : (Shape.list shOp).bulk xs ≤ 1048576) (hk0 : 0 ≤ k0) (hc : k0 + (Shape.sum ownOp.ct xs : Nat) ≤ 4611686018427387904) :
    Calls Tryz.prog 134 #[.slice a n c, .int .i64 k0] w fun e w' => e = .returned (.int .i64 (k0 + (Shape.sum ownOp.ct xs : Nat))) ∧ w = w' := by
  have hlen : xs.length = n := by rw [← h.1, Owned.mkL_length]
  have hbs : n + Shape.sum shOp.bulk xs ≤ 1048576 := by rw [← hlen]; exact hb
  have hn1 : n ≤ 1048576 := by omega
  have HB : Hid (Shape.sum shOp.bulk xs ≤ 1048576) := Lib.hid (by omega)
  have HC := Lib.hid hc
  have HLEN := Lib.hid hlen
  have HL := Lib.hid h
  obtain ⟨R, hR⟩ : ∃ R : Int, k0 + (Shape.sum ownOp.ct xs : Nat) = R := ⟨_, rfl⟩
  rw [hR]
  have HR := Lib.hid hR
  clear h hb hc hlen hR hbs
  go_enter Tryz.func134, Tryz.ntmps134
  go_wp2_with fail
  go_loop [5, 1] (fun i k => ∃ (j : Nat) (V : Int), j ≤ n ∧ i = .int .i64 j ∧ k = .int .i64 V ∧ Hid (V = k0 + (Shape.sum ownOp.ct (xs.take j) : Nat))) (fun i _ => n - (intOf i).toNat)
  case atStart => exact ⟨0, k0, Nat.zero_le _, rfl, rfl, Lib.hid (by simp [Shape.sum])⟩
  case round =>
    obtain ⟨j, V, hj, rfl, rfl, hV⟩ := hrel
    by_cases hlt : j < n
    · obtain ⟨x, hx⟩ : ∃ x, xs[j]? = some x := ⟨_, List.getElem?_eq_getElem (by rw [HLEN.out]; exact hlt)⟩
      obtain ⟨b, o, es, rfl, hbB, hr, hs⟩ := HL.out.2 j _ (mkL_get ownOp.mark ownOp.ct xs k0 j x hx)
      have hst := sum_take ownOp.ct xs j x hx
      have hsl := sum_take_le ownOp.ct xs (j + 1)
      have hV0 : 0 ≤ V := by rw [hV.out]; omega
      have hVc : V + (ownOp.ct x : Nat) ≤ 4611686018427387904 := by have h1 := HC.out; have h2 := hV.out; omega
      have hbx : shOp.bulk x ≤ 1048576 := by have h1 := bulk_mem shOp.bulk xs j x hx; have h2 := HB.out; omega
      have HST := Lib.hid hst
      rw [← hV.out] at hs
      obtain ⟨a0_, n0_, c0_, rfl, -, -, l0⟩ := shOp_reads.1 hs
      rw [shOp_size] at hr
      rw [shOp_bulk] at hbx
      have hct : ownOp.ct x = 3 + Shape.sum Owned.int.ct x.2.2.2 := by simp only [ownOp, Owned.struct, OwnedFields.cons, OwnedFields.last, Owned.int, Owned.bool, Owned.list]; omega
      rw [hct] at hVc
      have c0 := hr 0 _ rfl
      have c1 := hr 1 _ rfl
      have c2 := hr 2 _ rfl
      have c3 := hr 3 _ rfl
      simp only [Nat.add_zero] at c0
      have hl0 : ListAt Shape.int (Under B) w a0_ n0_ (Owned.mkL Owned.int.mark Owned.int.ct x.2.2.2 (V + 1 + 1 + 1)) := by
        have := l0
        simpa [ownOp, Owned.struct, OwnedFields.cons, OwnedFields.last, Owned.int, Owned.bool, Owned.list] using this
      replace c0 : w.cell? ⟨b, o + j * 4, none⟩ = some (.int .i64 (V)) := by
        have := c0
        simpa [ownOp, Owned.struct, OwnedFields.cons, OwnedFields.last, Owned.int, Owned.bool, Owned.list, Int.add_assoc] using this
      replace c1 : w.cell? ⟨b, o + j * 4 + 1, none⟩ = some (.int .i64 (V + 1)) := by
        have := c1
        simpa [ownOp, Owned.struct, OwnedFields.cons, OwnedFields.last, Owned.int, Owned.bool, Owned.list, Int.add_assoc] using this
      replace c2 : w.cell? ⟨b, o + j * 4 + 2, none⟩ = some (.int .i64 (V + 1 + 1)) := by
        have := c2
        simpa [ownOp, Owned.struct, OwnedFields.cons, OwnedFields.last, Owned.int, Owned.bool, Owned.list, Int.add_assoc] using this
      clear hs l0 hx hr
      have hc0 := heldIntS_o w B a0_ n0_ c0_ x.2.2.2 (V + 1 + 1 + 1) hl0 (by omega) (by omega) (by omega)
      obtain ⟨V0, hV0⟩ : ∃ V', V + 1 + 1 + 1 + (Shape.sum Owned.int.ct x.2.2.2 : Nat) = V' := ⟨_, rfl⟩
      rw [hV0] at hc0
      have t0 : decide (V0 < 0) = false := decide_eq_false (by omega)
      have HV0 := Lib.hid hV0
      have hVb0 : 0 ≤ V0 ∧ V0 ≤ 4611686018427387904 := by omega
      have HC0 := Lib.hid hc0
      clear hV0 hc0
      go_wp2_with fail
      refine HC0.out.mono ?_
      rintro e w' ⟨rfl, rfl⟩
      go_wp2_with fail
      go_round
      case rel => exact ⟨j + 1, _, by omega, by go_num, rfl, Lib.hid (by have e1 := HST.out; have e2 := hV.out; have g0 := HV0.out; rw [e1]; rw [hct]; omega)⟩
      case measure => simp [intOf]; omega
    · obtain rfl : j = n := by omega
      have hVR : V = R := by
        have e1 := hV.out
        rw [List.take_of_length_le (by rw [HLEN.out]; exact Nat.le_refl _), HR.out] at e1
        exact e1
      subst hVR
      go_wp2_with fail
      go_ret
      exact ⟨rfl, rfl⟩
theorem ownOp_ctT (x : dOp) : ownOp.ctT x = Shape.sum Owned.int.ct x.2.2.2 := by
  simp only [ownOp, Owned.struct, OwnedFields.cons, OwnedFields.last, Owned.int, Owned.bool, Owned.list]
  try omega
set_option maxRecDepth 100000 in
set_option maxHeartbeats 3200000 in
theorem markRowS_o (w : World) (F : Foot) (a : Option Addr) (n c : Nat) (xs : List dRow) (k0 : Int) (h : OwnList ownRow F w a n xs) (hb : (Shape.list shRow).bulk xs ≤ 1048576) (hk0 : 0 ≤ k0) (hc : k0 + (Shape.sum ownRow.ct xs : Nat) ≤ 4611686018427387904) :
    Calls Tryz.prog 115 #[.slice a n c, .int .i64 k0] w fun e w' => e = .returned (.int .i64 (k0 + (Shape.sum ownRow.ct xs : Nat))) ∧ OwnList ownRow F w' a n (Owned.mkL ownRow.mark ownRow.ct xs k0) ∧ Touched F w w' := by
  have hlen := h.1
  have hbs : n + Shape.sum shRow.bulk xs ≤ 1048576 := by rw [← hlen]; exact hb
  have hn1 : n ≤ 1048576 := by omega
  have HB : Hid (Shape.sum shRow.bulk xs ≤ 1048576) := Lib.hid (by omega)
  clear hbs
  have HC := Lib.hid hc
  have HLEN := Lib.hid hlen
  obtain ⟨R, hR⟩ : ∃ R : Int, k0 + (Shape.sum ownRow.ct xs : Nat) = R := ⟨_, rfl⟩
  rw [hR]
  have HR := Lib.hid hR
  by_cases hn : 0 < n
  · obtain ⟨b, o, G, rfl, hm⟩ := h.marking hn
    have HM := Lib.hid hm
    clear h hb hc hlen hm hR
    go_enter Tryz.func115, Tryz.ntmps115
    go_wp2_with fail
    go_loopw [5, 1] (fun i k wr => ∃ (j : Nat) (V : Int), j ≤ n ∧ i = .int .i64 j ∧ k = .int .i64 V ∧ Hid (V = k0 + (Shape.sum ownRow.ct (xs.take j) : Nat)) ∧ Marking ownRow F w wr b o n G (part ownRow.mark ownRow.ct xs k0 j)) (fun i _ _ => n - (intOf i).toNat)
    case atStart => exact ⟨0, k0, Nat.zero_le _, rfl, rfl, Lib.hid (by simp [Shape.sum]), by rw [part_zero]; exact HM.out⟩
    case round =>
      obtain ⟨j, V, hj, rfl, rfl, hV, hmk⟩ := hrel
      by_cases hlt : j < n
      · obtain ⟨x, hx⟩ : ∃ x, xs[j]? = some x := ⟨_, List.getElem?_eq_getElem (by rw [HLEN.out]; exact hlt)⟩
        have hy := (part_get ownRow.mark ownRow.ct xs k0 j (by rw [HLEN.out]; exact hj)).trans hx
        obtain ⟨es, hr, hs⟩ := hmk.elems j x hy
        have hG := hmk.inF j
        have hst := sum_take ownRow.ct xs j x hx
        have hsl := sum_take_le ownRow.ct xs (j + 1)
        have hV0 : 0 ≤ V := by rw [hV.out]; omega
        have hVc : V + (ownRow.ct x : Nat) ≤ 4611686018427387904 := by have h1 := HC.out; have h2 := hV.out; omega
        have hbx : shRow.bulk x ≤ 1048576 := by have h1 := bulk_mem shRow.bulk xs j x hx; have h2 := HB.out; omega
        have HST := Lib.hid hst
        have HX := Lib.hid hx
        have HMK := Lib.hid hmk
        have hp : Placing b (o + j * ownRow.size) ownRow.size (G j) wr wr es := ⟨Touched.refl _ _, there_part hmk.there (by omega) (by have := place_le (s := ownRow.size) hlt; omega), hr, ownRow.owns_len hs⟩
        obtain ⟨a0_, n0_, c0_, rfl, ⟨x0, y0, l0⟩⟩ := ownRow_owns.1 hs
        rw [ownRow_size] at hp
        have hA : ∀ b' o', G j b' o' → ¬ Cells b (o + j * 1) 1 b' o' := fun b' o' g c => (hG b' o' g).2 ⟨c.1, by have := c.2.1; omega, by have := place_le (s := 1) hlt; have h3 := c.2.2; rw [ownRow_size]; omega⟩
        rw [shRow_bulk] at hbx
        have hct : ownRow.ct x = 0 + Shape.sum Owned.int.ct x := by show Shape.sum _ _ = _; omega
        rw [hct] at hVc
        rw [Nat.mul_one] at hp hA
        have c0 := hp.range 0 _ rfl
        have f0 := (hp.there 0 (by omega)).2
        simp only [Nat.add_zero] at c0 f0
        have HP := Lib.hid hp
        have HL0 := Lib.hid l0
        clear hp l0
        have HCt : Hid (V + (Shape.sum Owned.int.ct x : Nat) ≤ 4611686018427387904) := Lib.hid (by omega)
        go_wp2_with fail
        clear c0 f0
        skip
        refine (markIntS_o wr _ _ _ _ _ (V) HL0.out (by omega) (by omega) HCt.out).mono ?_
        rintro e w1 ⟨rfl, ho0, ht0⟩
        clear HCt
        have hpq0 := HP.out.call ht0 (fun _ _ g => g) hA
        have l0 := ho0
        clear HP HL0 ht0
        obtain ⟨V0, hV0⟩ : ∃ V', V + (Shape.sum Owned.int.ct x : Nat) = V' := ⟨_, rfl⟩
        rw [hV0]
        have HV0 := Lib.hid hV0
        have hVb0 : 0 ≤ V0 ∧ V0 ≤ 4611686018427387904 := by omega
        clear hV0
        have c0 := hpq0.range 0 _ rfl
        have f0 := (hpq0.there 0 (by omega)).2
        simp only [Nat.add_zero] at c0 f0
        have hown := ownRow_owns (F := G j) (d := (Owned.mkL Owned.int.mark Owned.int.ct x (V))).2 ⟨_, _, _, rfl, ⟨x0, y0, l0⟩⟩
        have hmv : ownRow.mark x V = (Owned.mkL Owned.int.mark Owned.int.ct x (V)) := by
          simp only [ownRow, Owned.struct, OwnedFields.cons, OwnedFields.last, Owned.int, Owned.bool, Owned.list]
          try simp
          try (refine ⟨?_, ?_⟩ <;> rfl)
        have hN := HMK.out.step (k := j) (es' := _) hlt (by rw [ownRow_size, Nat.mul_one]; exact hpq0.touched) (by rw [ownRow_size, Nat.mul_one]; exact hpq0.range) hown
        rw [← hmv, hV.out, ← part_succ ownRow.mark ownRow.ct xs k0 j x HX.out] at hN
        have HN := Lib.hid hN
        clear hN hown hmv 
        go_wp2_with fail
        go_round
        case rel => exact ⟨j + 1, _, by omega, by go_num, rfl, Lib.hid (by have e1 := HST.out; have e2 := hV.out; have g0 := HV0.out; rw [e1]; rw [hct]; omega), HN.out⟩
        case measure => simp [intOf]; omega
      · obtain rfl : j = n := by omega
        have hVR : V = R := by
          have e1 := hV.out
          rw [List.take_of_length_le (by rw [HLEN.out]; exact Nat.le_refl _), HR.out] at e1
          exact e1
        subst hVR
        have hfin := hmk.own
        rw [← HLEN.out, part_all] at hfin
        rw [HLEN.out] at hfin
        have HF := Lib.hid hfin
        have HT := Lib.hid hmk.touched
        clear hmk hfin
        go_wp2_with fail
        go_ret
        exact ⟨rfl, HF.out, HT.out⟩
  · obtain rfl : n = 0 := by omega
    obtain rfl : xs = [] := List.eq_nil_of_length_eq_zero hlen
    have hR0 : R = k0 := by rw [← hR]; simp [Shape.sum]
    subst hR0
    clear h hb hc hR HR HC
    go_enter Tryz.func115, Tryz.ntmps115
    go_wp2_with fail
    go_loop [5, 1] (fun i k => i = .int .i64 0 ∧ k = .int .i64 R) (fun _ _ => 0)
    case atStart => exact ⟨rfl, rfl⟩
    case round =>
      obtain ⟨rfl, rfl⟩ := hrel
      go_wp2_with fail
      go_ret
      exact ⟨rfl, ⟨rfl, .inl rfl⟩, Touched.refl _ _⟩
set_option maxRecDepth 100000 in
set_option maxHeartbeats 1600000 in
theorem heldRowS_o (w : World) (B : Nat) (a : Option Addr) (n c : Nat) (xs : List dRow) (k0 : Int) (h : ListAt shRow (Under B) w a n (Owned.mkL ownRow.mark ownRow.ct xs k0)) (hb : (Shape.list shRow).bulk xs ≤ 1048576) (hk0 : 0 ≤ k0) (hc : k0 + (Shape.sum ownRow.ct xs : Nat) ≤ 4611686018427387904) :
    Calls Tryz.prog 116 #[.slice a n c, .int .i64 k0] w fun e w' => e = .returned (.int .i64 (k0 + (Shape.sum ownRow.ct xs : Nat))) ∧ w = w' := by
  have hlen : xs.length = n := by rw [← h.1, Owned.mkL_length]
  have hbs : n + Shape.sum shRow.bulk xs ≤ 1048576 := by rw [← hlen]; exact hb
  have hn1 : n ≤ 1048576 := by omega
  have HB : Hid (Shape.sum shRow.bulk xs ≤ 1048576) := Lib.hid (by omega)
  have HC := Lib.hid hc
  have HLEN := Lib.hid hlen
  have HL := Lib.hid h
  obtain ⟨R, hR⟩ : ∃ R : Int, k0 + (Shape.sum ownRow.ct xs : Nat) = R := ⟨_, rfl⟩
  rw [hR]
  have HR := Lib.hid hR
  clear h hb hc hlen hR hbs
  go_enter Tryz.func116, Tryz.ntmps116
  go_wp2_with fail
  go_loop [5, 1] (fun i k => ∃ (j : Nat) (V : Int), j ≤ n ∧ i = .int .i64 j ∧ k = .int .i64 V ∧ Hid (V = k0 + (Shape.sum ownRow.ct (xs.take j) : Nat))) (fun i _ => n - (intOf i).toNat)
  case atStart => exact ⟨0, k0, Nat.zero_le _, rfl, rfl, Lib.hid (by simp [Shape.sum])⟩
  case round =>
    obtain ⟨j, V, hj, rfl, rfl, hV⟩ := hrel
    by_cases hlt : j < n
    · obtain ⟨x, hx⟩ : ∃ x, xs[j]? = some x := ⟨_, List.getElem?_eq_getElem (by rw [HLEN.out]; exact hlt)⟩
      obtain ⟨b, o, es, rfl, hbB, hr, hs⟩ := HL.out.2 j _ (mkL_get ownRow.mark ownRow.ct xs k0 j x hx)
      have hst := sum_take ownRow.ct xs j x hx
      have hsl := sum_take_le ownRow.ct xs (j + 1)
      have hV0 : 0 ≤ V := by rw [hV.out]; omega
      have hVc : V + (ownRow.ct x : Nat) ≤ 4611686018427387904 := by have h1 := HC.out; have h2 := hV.out; omega
      have hbx : shRow.bulk x ≤ 1048576 := by have h1 := bulk_mem shRow.bulk xs j x hx; have h2 := HB.out; omega
      have HST := Lib.hid hst
      rw [← hV.out] at hs
      obtain ⟨a0_, n0_, c0_, rfl, -, -, l0⟩ := shRow_reads.1 hs
      rw [shRow_size] at hr
      rw [shRow_bulk] at hbx
      have hct : ownRow.ct x = 0 + Shape.sum Owned.int.ct x := by show Shape.sum _ _ = _; omega
      rw [hct] at hVc
      rw [Nat.mul_one] at hr
      have c0 := hr 0 _ rfl
      simp only [Nat.add_zero] at c0
      have hl0 : ListAt Shape.int (Under B) w a0_ n0_ (Owned.mkL Owned.int.mark Owned.int.ct x (V)) := l0
      clear hs l0 hx hr
      have hc0 := heldIntS_o w B a0_ n0_ c0_ x (V) hl0 (by omega) (by omega) (by omega)
      obtain ⟨V0, hV0⟩ : ∃ V', V + (Shape.sum Owned.int.ct x : Nat) = V' := ⟨_, rfl⟩
      rw [hV0] at hc0
      have t0 : decide (V0 < 0) = false := decide_eq_false (by omega)
      have HV0 := Lib.hid hV0
      have hVb0 : 0 ≤ V0 ∧ V0 ≤ 4611686018427387904 := by omega
      have HC0 := Lib.hid hc0
      clear hV0 hc0
      go_wp2_with fail
      refine HC0.out.mono ?_
      rintro e w' ⟨rfl, rfl⟩
      go_wp2_with fail
      go_round
      case rel => exact ⟨j + 1, _, by omega, by go_num, rfl, Lib.hid (by have e1 := HST.out; have e2 := hV.out; have g0 := HV0.out; rw [e1]; rw [hct]; omega)⟩
      case measure => simp [intOf]; omega
    · obtain rfl : j = n := by omega
      have hVR : V = R := by
        have e1 := hV.out
        rw [List.take_of_length_le (by rw [HLEN.out]; exact Nat.le_refl _), HR.out] at e1
        exact e1
      subst hVR
      go_wp2_with fail
      go_ret
      exact ⟨rfl, rfl⟩
theorem ownRow_ctT (x : dRow) : ownRow.ctT x = Shape.sum Owned.int.ct x := by
  show Shape.sum _ _ = _
  rfl
set_option maxRecDepth 100000 in
set_option maxHeartbeats 3200000 in
theorem markPairS_o (w : World) (F : Foot) (a : Option Addr) (n c : Nat) (xs : List dPair) (k0 : Int) (h : OwnList ownPair F w a n xs) (hb : (Shape.list shPair).bulk xs ≤ 1048576) (hk0 : 0 ≤ k0) (hc : k0 + (Shape.sum ownPair.ct xs : Nat) ≤ 4611686018427387904) :
    Calls Tryz.prog 52 #[.slice a n c, .int .i64 k0] w fun e w' => e = .returned (.int .i64 (k0 + (Shape.sum ownPair.ct xs : Nat))) ∧ OwnList ownPair F w' a n (Owned.mkL ownPair.mark ownPair.ct xs k0) ∧ Touched F w w' := by
  have hlen := h.1
  have hbs : n + Shape.sum shPair.bulk xs ≤ 1048576 := by rw [← hlen]; exact hb
  have hn1 : n ≤ 1048576 := by omega
  have HB : Hid (Shape.sum shPair.bulk xs ≤ 1048576) := Lib.hid (by omega)
  clear hbs
  have HC := Lib.hid hc
  have HLEN := Lib.hid hlen
  obtain ⟨R, hR⟩ : ∃ R : Int, k0 + (Shape.sum ownPair.ct xs : Nat) = R := ⟨_, rfl⟩
  rw [hR]
  have HR := Lib.hid hR
  by_cases hn : 0 < n
  · obtain ⟨b, o, G, rfl, hm⟩ := h.marking hn
    have HM := Lib.hid hm
    clear h hb hc hlen hm hR
    go_enter Tryz.func52, Tryz.ntmps52
    go_wp2_with fail
    go_loopw [5, 1] (fun i k wr => ∃ (j : Nat) (V : Int), j ≤ n ∧ i = .int .i64 j ∧ k = .int .i64 V ∧ Hid (V = k0 + (Shape.sum ownPair.ct (xs.take j) : Nat)) ∧ Marking ownPair F w wr b o n G (part ownPair.mark ownPair.ct xs k0 j)) (fun i _ _ => n - (intOf i).toNat)
    case atStart => exact ⟨0, k0, Nat.zero_le _, rfl, rfl, Lib.hid (by simp [Shape.sum]), by rw [part_zero]; exact HM.out⟩
    case round =>
      obtain ⟨j, V, hj, rfl, rfl, hV, hmk⟩ := hrel
      by_cases hlt : j < n
      · obtain ⟨x, hx⟩ : ∃ x, xs[j]? = some x := ⟨_, List.getElem?_eq_getElem (by rw [HLEN.out]; exact hlt)⟩
        have hy := (part_get ownPair.mark ownPair.ct xs k0 j (by rw [HLEN.out]; exact hj)).trans hx
        obtain ⟨es, hr, hs⟩ := hmk.elems j x hy
        have hG := hmk.inF j
        have hst := sum_take ownPair.ct xs j x hx
        have hsl := sum_take_le ownPair.ct xs (j + 1)
        have hV0 : 0 ≤ V := by rw [hV.out]; omega
        have hVc : V + (ownPair.ct x : Nat) ≤ 4611686018427387904 := by have h1 := HC.out; have h2 := hV.out; omega
        have hbx : shPair.bulk x ≤ 1048576 := by have h1 := bulk_mem shPair.bulk xs j x hx; have h2 := HB.out; omega
        have HST := Lib.hid hst
        have HX := Lib.hid hx
        have HMK := Lib.hid hmk
        have hp : Placing b (o + j * ownPair.size) ownPair.size (G j) wr wr es := ⟨Touched.refl _ _, there_part hmk.there (by omega) (by have := place_le (s := ownPair.size) hlt; omega), hr, ownPair.owns_len hs⟩
        obtain ⟨a0_, n0_, c0_, a1_, n1_, c1_, G0, G1, rfl, ⟨x0, y0, l0⟩, ⟨x1, y1, l1⟩, s0, s1, ap0_1⟩ := ownPair_owns.1 hs
        rw [ownPair_size] at hp
        have hA : ∀ b' o', G j b' o' → ¬ Cells b (o + j * 2) 2 b' o' := fun b' o' g c => (hG b' o' g).2 ⟨c.1, by have := c.2.1; omega, by have := place_le (s := 2) hlt; have h3 := c.2.2; rw [ownPair_size]; omega⟩
        rw [shPair_bulk] at hbx
        have hct : ownPair.ct x = 0 + Shape.sum Owned.int.ct x.1 + Shape.sum Owned.int.ct x.2 := by simp only [ownPair, Owned.struct, OwnedFields.cons, OwnedFields.last, Owned.int, Owned.bool, Owned.list]; omega
        rw [hct] at hVc
        have c0 := hp.range 0 _ rfl
        have f0 := (hp.there 0 (by omega)).2
        have c1 := hp.range 1 _ rfl
        have f1 := (hp.there 1 (by omega)).2
        simp only [Nat.add_zero] at c0 f0
        have HP := Lib.hid hp
        have HL0 := Lib.hid l0
        have HL1 := Lib.hid l1
        clear hp l0 l1
        have HCt : Hid (V + (Shape.sum Owned.int.ct x.1 : Nat) ≤ 4611686018427387904) := Lib.hid (by omega)
        go_wp2_with fail
        clear c0 f0 c1 f1
        skip
        refine (markIntS_o wr _ _ _ _ _ (V) HL0.out (by omega) (by omega) HCt.out).mono ?_
        rintro e w1 ⟨rfl, ho0, ht0⟩
        clear HCt
        have hpq0 := HP.out.call ht0 s0 hA
        have l0 := ho0
        have l1 := HL1.out.keep (ht0.same ap0_1)
        clear HP HL0 HL1 ht0
        obtain ⟨V0, hV0⟩ : ∃ V', V + (Shape.sum Owned.int.ct x.1 : Nat) = V' := ⟨_, rfl⟩
        rw [hV0]
        have HV0 := Lib.hid hV0
        have hVb0 : 0 ≤ V0 ∧ V0 ≤ 4611686018427387904 := by omega
        clear hV0
        have c0 := hpq0.range 0 _ rfl
        have f0 := (hpq0.there 0 (by omega)).2
        have c1 := hpq0.range 1 _ rfl
        have f1 := (hpq0.there 1 (by omega)).2
        simp only [Nat.add_zero] at c0 f0
        have HP := Lib.hid hpq0
        have HL0 := Lib.hid l0
        have HL1 := Lib.hid l1
        clear hpq0 l0 l1
        have HCt : Hid (V0 + (Shape.sum Owned.int.ct x.2 : Nat) ≤ 4611686018427387904) := Lib.hid (by have e0 := HV0.out; omega)
        go_wp2_with fail
        clear c0 f0 c1 f1
        skip
        refine (markIntS_o w1 _ _ _ _ _ (V0) HL1.out (by omega) (by omega) HCt.out).mono ?_
        rintro e w2 ⟨rfl, ho1, ht1⟩
        clear HCt
        have hpq1 := HP.out.call ht1 s1 hA
        have l0 := HL0.out.keep (ht1.same ap0_1.symm)
        have l1 := ho1
        clear HP HL0 HL1 ht1
        obtain ⟨V1, hV1⟩ : ∃ V', V0 + (Shape.sum Owned.int.ct x.2 : Nat) = V' := ⟨_, rfl⟩
        rw [hV1]
        have HV1 := Lib.hid hV1
        have hVb1 : 0 ≤ V1 ∧ V1 ≤ 4611686018427387904 := by have e0 := HV0.out; omega
        clear hV1
        have c0 := hpq1.range 0 _ rfl
        have f0 := (hpq1.there 0 (by omega)).2
        have c1 := hpq1.range 1 _ rfl
        have f1 := (hpq1.there 1 (by omega)).2
        simp only [Nat.add_zero] at c0 f0
        have hown := ownPair_owns (F := G j) (d := ((Owned.mkL Owned.int.mark Owned.int.ct x.1 (V)), (Owned.mkL Owned.int.mark Owned.int.ct x.2 (V0)))).2 ⟨_, _, _, _, _, _, G0, G1, rfl, ⟨x0, y0, l0⟩, ⟨x1, y1, l1⟩, s0, s1, ap0_1⟩
        have hmv : ownPair.mark x V = ((Owned.mkL Owned.int.mark Owned.int.ct x.1 (V)), (Owned.mkL Owned.int.mark Owned.int.ct x.2 (V0))) := by
          simp only [ownPair, Owned.struct, OwnedFields.cons, OwnedFields.last, Owned.int, Owned.bool, Owned.list, ← HV0.out]
          try simp
          try (refine ⟨?_, ?_⟩ <;> rfl)
        have hN := HMK.out.step (k := j) (es' := _) hlt (by rw [ownPair_size]; exact hpq1.touched) (by rw [ownPair_size]; exact hpq1.range) hown
        rw [← hmv, hV.out, ← part_succ ownPair.mark ownPair.ct xs k0 j x HX.out] at hN
        have HN := Lib.hid hN
        clear hN hown hmv 
        go_wp2_with fail
        go_round
        case rel => exact ⟨j + 1, _, by omega, by go_num, rfl, Lib.hid (by have e1 := HST.out; have e2 := hV.out; have g0 := HV0.out; have g1 := HV1.out; rw [e1]; rw [hct]; omega), HN.out⟩
        case measure => simp [intOf]; omega
      · obtain rfl : j = n := by omega
        have hVR : V = R := by
          have e1 := hV.out
          rw [List.take_of_length_le (by rw [HLEN.out]; exact Nat.le_refl _), HR.out] at e1
          exact e1
        subst hVR
        have hfin := hmk.own
        rw [← HLEN.out, part_all] at hfin
        rw [HLEN.out] at hfin
        have HF := Lib.hid hfin
        have HT := Lib.hid hmk.touched
        clear hmk hfin
        go_wp2_with fail
        go_ret
        exact ⟨rfl, HF.out, HT.out⟩
  · obtain rfl : n = 0 := by omega
    obtain rfl : xs = [] := List.eq_nil_of_length_eq_zero hlen
    have hR0 : R = k0 := by rw [← hR]; simp [Shape.sum]
    subst hR0
    clear h hb hc hR HR HC
    go_enter Tryz.func52, Tryz.ntmps52
    go_wp2_with fail
    go_loop [5, 1] (fun i k => i = .int .i64 0 ∧ k = .int .i64 R) (fun _ _ => 0)
    case atStart => exact ⟨rfl, rfl⟩
    case round =>
      obtain ⟨rfl, rfl⟩ := hrel
      go_wp2_with fail
      go_ret
      exact ⟨rfl, ⟨rfl, .inl rfl⟩, Touched.refl _ _⟩
theorem ownPair_ctT (x : dPair) : ownPair.ctT x = Shape.sum Owned.int.ct x.1 + Shape.sum Owned.int.ct x.2 := by
  simp only [ownPair, Owned.struct, OwnedFields.cons, OwnedFields.last, Owned.int, Owned.bool, Owned.list]
  try omega
set_option maxRecDepth 100000 in
set_option maxHeartbeats 1600000 in
theorem markPair_o (w : World) (F : Foot) (es : List Value) (x : dPair) (k0 : Int) (h : ownPair.owns F w es x) (hF : ∀ b o, F b o → b < w.heap.size) (hb : shPair.bulk x ≤ 1048576) (hk0 : 0 ≤ k0) (hc : k0 + (ownPair.ctT x : Nat) ≤ 4611686018427387904) :
    Calls Tryz.prog 45 #[.agg es.toArray, .int .i64 k0] w fun e w' => e = .returned (.int .i64 (k0 + (ownPair.ctT x : Nat))) ∧ ownPair.owns F w' es (ownPair.markT x k0) ∧ ∃ w1, Below w.heap.size w w1 ∧ Touched F w1 w' := by
  obtain ⟨a0_, n0_, c0_, a1_, n1_, c1_, G0, G1, rfl, ⟨x0, y0, l0⟩, ⟨x1, y1, l1⟩, s0, s1, ap0_1⟩ := ownPair_owns.1 h
  rw [ownPair_ctT] at hc ⊢
  rw [shPair_bulk] at hb
  have ha := (Below.refl w.heap.size w).alloc (Nat.le_refl _) (.cells #[.slice a0_ n0_ c0_, .slice a1_ n1_ c1_] 66 (0, 0))
  have hb0 := heap_alloc_new w (.cells #[.slice a0_ n0_ c0_, .slice a1_ n1_ c1_] 66 (0, 0))
  have l0_0 := l0.keep (.of_below ha fun b o f => hF b o (s0 b o f))
  have l1_0 := l1.keep (.of_below ha fun b o f => hF b o (s1 b o f))
  have HA := Lib.hid ha
  have HB0 := Lib.hid hb0
  have L0 := Lib.hid l0_0
  have L1 := Lib.hid l1_0
  have HT : Hid (Touched F (w.alloc (.cells #[.slice a0_ n0_ c0_, .slice a1_ n1_ c1_] 66 (0, 0))) (w.alloc (.cells #[.slice a0_ n0_ c0_, .slice a1_ n1_ c1_] 66 (0, 0)))) := Lib.hid (Touched.refl _ _)
  clear h ha hb0 l0 l0_0 l1 l1_0
  obtain ⟨V0, hV0⟩ : ∃ V', k0 + (Shape.sum Owned.int.ct x.1 : Nat) = V' := ⟨_, rfl⟩
  have HV0 := Lib.hid hV0
  obtain ⟨V1, hV1⟩ : ∃ V', V0 + (Shape.sum Owned.int.ct x.2 : Nat) = V' := ⟨_, rfl⟩
  have HV1 := Lib.hid hV1
  have hV : k0 + ((Shape.sum Owned.int.ct x.1 + Shape.sum Owned.int.ct x.2 : Nat) : Int) = V1 := by omega
  rw [hV]
  go_enter Tryz.func45, Tryz.ntmps45
  go_wp2_with fail
  generalize hwa : w.alloc (.cells #[.slice a0_ n0_ c0_, .slice a1_ n1_ c1_] 66 (0, 0)) = wa at HA HB0 HT L0 L1 ⊢
  have hc0 := markIntS_o wa G0 a0_ n0_ c0_ x.1 k0 L0.out (by omega) (by omega) (by omega)
  rw [HV0.out] at hc0
  have HC0 := Lib.hid hc0
  clear hc0
  refine HC0.out.mono ?_
  rintro e w1 ⟨rfl, ho, ht⟩
  clear HC0
  replace HT := Lib.hid (HT.out.trans (ht.mono s0))
  replace L0 := Lib.hid ho
  replace L1 := Lib.hid (L1.out.keep (ht.same ap0_1))
  replace HB0 := Lib.hid ((ht.block w.heap.size fun o f => by have := hF _ _ (s0 _ _ f); omega).trans HB0.out)
  have z0 := cell_of_row _ w.heap.size 0 _ _ _ HB0.out
  have z1 := cell_of_row _ w.heap.size 1 _ _ _ HB0.out
  simp only [List.getElem?_toArray, List.getElem?_cons_zero, List.getElem?_cons_succ] at z0 z1
  clear ho ht
  have hc1 := markIntS_o w1 G1 a1_ n1_ c1_ x.2 V0 L1.out (by omega) (by omega) (by omega)
  rw [HV1.out] at hc1
  have HC1 := Lib.hid hc1
  clear hc1
  go_wp2_with fail
  clear z0 z1
  refine HC1.out.mono ?_
  rintro e w2 ⟨rfl, ho, ht⟩
  clear HC1
  replace HT := Lib.hid (HT.out.trans (ht.mono s1))
  replace L0 := Lib.hid (L0.out.keep (ht.same ap0_1.symm))
  replace L1 := Lib.hid ho
  clear ho ht
  go_wp2_with fail
  go_ret
  have hown := ownPair_owns (F := F) (w := w2) (d := (Owned.mkL Owned.int.mark Owned.int.ct x.1 k0, Owned.mkL Owned.int.mark Owned.int.ct x.2 V0)).2 ⟨_, _, _, _, _, _, G0, G1, rfl, ⟨x0, y0, L0.out⟩, ⟨x1, y1, L1.out⟩, s0, s1, ap0_1⟩
  have hmv : ownPair.markT x k0 = (Owned.mkL Owned.int.mark Owned.int.ct x.1 k0, Owned.mkL Owned.int.mark Owned.int.ct x.2 V0) := by
    simp only [ownPair, Owned.struct, OwnedFields.cons, OwnedFields.last, Owned.int, Owned.bool, Owned.list, ← HV0.out]
    try simp
  rw [hmv]
  exact ⟨rfl, hown, wa, HA.out, HT.out⟩
theorem ownModel_ctT (x : dModel) : ownModel.ctT x = Shape.sum ownOp.ct x := by
  show Shape.sum _ _ = _
  rfl
set_option maxRecDepth 100000 in
set_option maxHeartbeats 1600000 in
theorem markModel_o (w : World) (F : Foot) (es : List Value) (x : dModel) (k0 : Int) (h : ownModel.owns F w es x) (hF : ∀ b o, F b o → b < w.heap.size) (hb : shModel.bulk x ≤ 1048576) (hk0 : 0 ≤ k0) (hc : k0 + (ownModel.ctT x : Nat) ≤ 4611686018427387904) :
    Calls Tryz.prog 44 #[.agg es.toArray, .int .i64 k0] w fun e w' => e = .returned (.int .i64 (k0 + (ownModel.ctT x : Nat))) ∧ ownModel.owns F w' es (ownModel.markT x k0) ∧ ∃ w1, Below w.heap.size w w1 ∧ Touched F w1 w' := by
  obtain ⟨a0_, n0_, c0_, rfl, ⟨x0, y0, l0⟩⟩ := ownModel_owns.1 h
  rw [ownModel_ctT] at hc ⊢
  rw [shModel_bulk] at hb
  have ha := (Below.refl w.heap.size w).alloc (Nat.le_refl _) (.cells #[.slice a0_ n0_ c0_] 50 (0, 0))
  have hb0 := heap_alloc_new w (.cells #[.slice a0_ n0_ c0_] 50 (0, 0))
  have l0_0 := l0.keep (.of_below ha hF)
  have HA := Lib.hid ha
  have HB0 := Lib.hid hb0
  have L0 := Lib.hid l0_0
  have HT : Hid (Touched F (w.alloc (.cells #[.slice a0_ n0_ c0_] 50 (0, 0))) (w.alloc (.cells #[.slice a0_ n0_ c0_] 50 (0, 0)))) := Lib.hid (Touched.refl _ _)
  clear h ha hb0 l0 l0_0
  obtain ⟨V0, hV0⟩ : ∃ V', k0 + (Shape.sum ownOp.ct x : Nat) = V' := ⟨_, rfl⟩
  have HV0 := Lib.hid hV0
  have hV : k0 + ((Shape.sum ownOp.ct x : Nat) : Int) = V0 := by omega
  rw [hV]
  go_enter Tryz.func44, Tryz.ntmps44
  go_wp2_with fail
  generalize hwa : w.alloc (.cells #[.slice a0_ n0_ c0_] 50 (0, 0)) = wa at HA HB0 HT L0 ⊢
  have hc0 := markOpS_o wa F a0_ n0_ c0_ x k0 L0.out (by omega) (by omega) (by omega)
  rw [HV0.out] at hc0
  have HC0 := Lib.hid hc0
  clear hc0
  refine HC0.out.mono ?_
  rintro e w1 ⟨rfl, ho, ht⟩
  clear HC0
  replace HT := Lib.hid (HT.out.trans (ht.mono fun _ _ g => g))
  replace L0 := Lib.hid ho
  clear ho ht
  go_wp2_with fail
  go_ret
  have hown := ownModel_owns (F := F) (w := w1) (d := Owned.mkL ownOp.mark ownOp.ct x k0).2 ⟨_, _, _, rfl, ⟨x0, y0, L0.out⟩⟩
  have hmv : ownModel.markT x k0 = Owned.mkL ownOp.mark ownOp.ct x k0 := by
    simp only [ownModel, Owned.struct, OwnedFields.cons, OwnedFields.last, Owned.int, Owned.bool, Owned.list]
    try simp
  rw [hmv]
  exact ⟨rfl, hown, wa, HA.out, HT.out⟩
theorem ownGrads_ctT (x : dGrads) : ownGrads.ctT x = Shape.sum ownRow.ct x.1 := by
  simp only [ownGrads, Owned.struct, OwnedFields.cons, OwnedFields.last, Owned.int, Owned.bool, Owned.list]
  try omega
set_option maxRecDepth 100000 in
set_option maxHeartbeats 1600000 in
theorem markGrads_o (w : World) (F : Foot) (es : List Value) (x : dGrads) (k0 : Int) (h : ownGrads.owns F w es x) (hF : ∀ b o, F b o → b < w.heap.size) (hb : shGrads.bulk x ≤ 1048576) (hk0 : 0 ≤ k0) (hc : k0 + (ownGrads.ctT x : Nat) ≤ 4611686018427387904) :
    Calls Tryz.prog 46 #[.agg es.toArray, .int .i64 k0] w fun e w' => e = .returned (.int .i64 (k0 + (ownGrads.ctT x : Nat))) ∧ ownGrads.owns F w' es (ownGrads.markT x k0) ∧ ∃ w1, Below w.heap.size w w1 ∧ Touched F w1 w' := by
  obtain ⟨a0_, n0_, c0_, rfl, ⟨x0, y0, l0⟩⟩ := ownGrads_owns.1 h
  rw [ownGrads_ctT] at hc ⊢
  rw [shGrads_bulk] at hb
  have ha := (Below.refl w.heap.size w).alloc (Nat.le_refl _) (.cells #[.slice a0_ n0_ c0_, .int .i64 x.2.1, .bool x.2.2] 30 (0, 0))
  have hb0 := heap_alloc_new w (.cells #[.slice a0_ n0_ c0_, .int .i64 x.2.1, .bool x.2.2] 30 (0, 0))
  have l0_0 := l0.keep (.of_below ha hF)
  have HA := Lib.hid ha
  have HB0 := Lib.hid hb0
  have L0 := Lib.hid l0_0
  have HT : Hid (Touched F (w.alloc (.cells #[.slice a0_ n0_ c0_, .int .i64 x.2.1, .bool x.2.2] 30 (0, 0))) (w.alloc (.cells #[.slice a0_ n0_ c0_, .int .i64 x.2.1, .bool x.2.2] 30 (0, 0)))) := Lib.hid (Touched.refl _ _)
  clear h ha hb0 l0 l0_0
  obtain ⟨V0, hV0⟩ : ∃ V', k0 + (Shape.sum ownRow.ct x.1 : Nat) = V' := ⟨_, rfl⟩
  have HV0 := Lib.hid hV0
  have hV : k0 + ((Shape.sum ownRow.ct x.1 : Nat) : Int) = V0 := by omega
  rw [hV]
  go_enter Tryz.func46, Tryz.ntmps46
  go_wp2_with fail
  generalize hwa : w.alloc (.cells #[.slice a0_ n0_ c0_, .int .i64 x.2.1, .bool x.2.2] 30 (0, 0)) = wa at HA HB0 HT L0 ⊢
  have hc0 := markRowS_o wa F a0_ n0_ c0_ x.1 k0 L0.out (by omega) (by omega) (by omega)
  rw [HV0.out] at hc0
  have HC0 := Lib.hid hc0
  clear hc0
  refine HC0.out.mono ?_
  rintro e w1 ⟨rfl, ho, ht⟩
  clear HC0
  replace HT := Lib.hid (HT.out.trans (ht.mono fun _ _ g => g))
  replace L0 := Lib.hid ho
  clear ho ht
  go_wp2_with fail
  go_ret
  have hown := ownGrads_owns (F := F) (w := w1) (d := (Owned.mkL ownRow.mark ownRow.ct x.1 k0, x.2.1, x.2.2)).2 ⟨_, _, _, rfl, ⟨x0, y0, L0.out⟩⟩
  have hmv : ownGrads.markT x k0 = (Owned.mkL ownRow.mark ownRow.ct x.1 k0, x.2.1, x.2.2) := by
    simp only [ownGrads, Owned.struct, OwnedFields.cons, OwnedFields.last, Owned.int, Owned.bool, Owned.list]
    try simp
  rw [hmv]
  exact ⟨rfl, hown, wa, HA.out, HT.out⟩
set_option maxRecDepth 100000 in
set_option maxHeartbeats 1600000 in
theorem heldGrads_o (w : World) (B : Nat) (es : List Value) (x : dGrads) (k0 : Int) (h : shGrads.reads (Under B) w es (ownGrads.markT x k0)) (hB : B ≤ w.heap.size) (hb : shGrads.bulk x ≤ 1048576) (hk0 : 0 ≤ k0) (hc : k0 + (ownGrads.ctT x : Nat) ≤ 4611686018427387904) :
    Calls Tryz.prog 47 #[.agg es.toArray, .int .i64 k0] w fun e w' => e = .returned (.int .i64 (k0 + (ownGrads.ctT x : Nat))) ∧ Below w.heap.size w w' := by
  have hmv : ownGrads.markT x k0 = (Owned.mkL ownRow.mark ownRow.ct x.1 (k0), x.2.1, x.2.2) := by
    simp only [ownGrads, Owned.struct, OwnedFields.cons, OwnedFields.last, Owned.int, Owned.bool, Owned.list]
    try simp
  rw [hmv] at h
  obtain ⟨a0_, n0_, c0_, rfl, -, -, l0⟩ := shGrads_reads.1 h
  rw [ownGrads_ctT] at hc ⊢
  rw [shGrads_bulk] at hb
  have ha := (Below.refl w.heap.size w).alloc (Nat.le_refl _) (.cells #[.slice a0_ n0_ c0_, .int .i64 x.2.1, .bool x.2.2] 30 (0, 0))
  have L0 := Lib.hid (l0.below ha hB)
  have HA := Lib.hid ha
  clear h hmv ha l0
  obtain ⟨V0, hV0⟩ : ∃ V', k0 + (Shape.sum ownRow.ct x.1 : Nat) = V' := ⟨_, rfl⟩
  have HV0 := Lib.hid hV0
  have t0 : decide (V0 < 0) = false := decide_eq_false (by omega)
  have hV : k0 + ((Shape.sum ownRow.ct x.1 : Nat) : Int) = V0 := by omega
  rw [hV]
  go_enter Tryz.func47, Tryz.ntmps47
  have hc0 := heldRowS_o _ _ a0_ n0_ c0_ x.1 k0 L0.out (by omega) (by omega) (by omega)
  rw [HV0.out] at hc0
  have HC0 := Lib.hid hc0
  clear hc0
  go_wp2_with fail
  refine HC0.out.mono ?_
  rintro e w1 ⟨rfl, rfl⟩
  go_wp2_with fail
  go_ret
  exact ⟨rfl, HA.out⟩
end Go.Proofs.YtpnifgpmleaohaaGreatDoor

end

/-! YtpnifgpmleaohaaGreatDoorFew -/
section

namespace Go.Proofs.YtpnifgpmleaohaaGreatDoor
open Go.RowKit
set_option linter.unusedVariables false
set_option linter.unusedSimpArgs false

theorem sum_few {α : Type} (f g : α → Nat) (h : ∀ x, f x ≤ 16 + 16 * g x) : ∀ l : List α, Shape.sum f l ≤ 16 * (l.length + Shape.sum g l)
  | [] => Nat.zero_le _
  | x :: l => by
    have h1 := sum_few f g h l
    have h2 := h x
    simp only [Shape.sum, List.length_cons]
    omega
theorem few_IntS (xs : List Int) : Shape.sum Owned.int.ct xs ≤ 16 * (Shape.list Shape.int).bulk xs := by
  rw [sum_ones, bulk_ints]
  omega
theorem ownOp_few (x : dOp) : ownOp.ctT x ≤ 16 * shOp.bulk x := by
  rw [ownOp_ctT, shOp_bulk]
  have e0 := few_IntS x.2.2.2
  omega
theorem ownOp_ct (x : dOp) : ownOp.ct x = ownOp.ctT x + 3 := by
  rw [ownOp_ctT]
  simp only [ownOp, Owned.struct, OwnedFields.cons, OwnedFields.last, Owned.int, Owned.bool, Owned.list]
  try omega
theorem few_OpS (xs : List dOp) : Shape.sum ownOp.ct xs ≤ 16 * (Shape.list shOp).bulk xs := by
  refine sum_few ownOp.ct shOp.bulk (fun x => ?_) xs
  rw [ownOp_ct]
  have := ownOp_few x
  omega
theorem ownRow_few (x : dRow) : ownRow.ctT x ≤ 16 * shRow.bulk x := by
  rw [ownRow_ctT, shRow_bulk]
  have e0 := few_IntS x
  omega
theorem ownRow_ct (x : dRow) : ownRow.ct x = ownRow.ctT x + 0 := by
  rw [ownRow_ctT]
  simp only [ownRow, Owned.struct, OwnedFields.cons, OwnedFields.last, Owned.int, Owned.bool, Owned.list]
  try omega
theorem few_RowS (xs : List dRow) : Shape.sum ownRow.ct xs ≤ 16 * (Shape.list shRow).bulk xs := by
  refine sum_few ownRow.ct shRow.bulk (fun x => ?_) xs
  rw [ownRow_ct]
  have := ownRow_few x
  omega
theorem ownPair_few (x : dPair) : ownPair.ctT x ≤ 16 * shPair.bulk x := by
  rw [ownPair_ctT, shPair_bulk]
  have e0 := few_IntS x.1
  have e1 := few_IntS x.2
  omega
theorem ownPair_ct (x : dPair) : ownPair.ct x = ownPair.ctT x + 0 := by
  rw [ownPair_ctT]
  simp only [ownPair, Owned.struct, OwnedFields.cons, OwnedFields.last, Owned.int, Owned.bool, Owned.list]
  try omega
theorem few_PairS (xs : List dPair) : Shape.sum ownPair.ct xs ≤ 16 * (Shape.list shPair).bulk xs := by
  refine sum_few ownPair.ct shPair.bulk (fun x => ?_) xs
  rw [ownPair_ct]
  have := ownPair_few x
  omega
theorem ownModel_few (x : dModel) : ownModel.ctT x ≤ 16 * shModel.bulk x := by
  rw [ownModel_ctT, shModel_bulk]
  have e0 := few_OpS x
  omega
theorem ownGrads_few (x : dGrads) : ownGrads.ctT x ≤ 16 * shGrads.bulk x := by
  rw [ownGrads_ctT, shGrads_bulk]
  have e0 := few_RowS x.1
  omega
end Go.Proofs.YtpnifgpmleaohaaGreatDoor

end
