/-
  The model's OpBackward.
-/
import Derived.Test.YtpnifgpmleaohaaGreatDoorJoin11
namespace Go.Proofs.YtpnifgpmleaohaaGreatDoor
open Go.RowKit
set_option linter.unusedVariables false

/-- Two rows that share nothing. -/
def ApartV (v u : Value) : Prop := ∀ k, v.ownBlock = some k → u.ownBlock ≠ some k
/-- What a function that makes two rows and a mark leaves. -/
def RowsB (w : World) (zs gs : List Int) (o : Bool) (e : Ending) (w' : World) : Prop := ∃ v u, e = .returned (.tuple #[v, u, .bool o]) ∧ Row w.heap.size w' v zs ∧ Row w.heap.size w' u gs ∧ ApartV v u ∧ Below w.heap.size w w'
theorem apart_before {base b2 : Nat} {w w' : World} {v u : Value} {zs gs : List Int} (h : Row base w v zs) (h' : Row b2 w' u gs) (hb : w.heap.size ≤ b2) : ApartV v u := fun k hv hu => by
  have a := (h.lt k hv).2
  have b := (h'.lt k hu).1
  omega
theorem ApartV.ne {v u : Value} (h : ApartV v u) : u.ownBlock = none ∨ u.ownBlock ≠ v.ownBlock := by
  cases hv : v.ownBlock with
  | none =>
    cases hu : u.ownBlock with
    | none => exact .inl rfl
    | some k => exact .inr (by simp)
  | some k => exact .inr (h k hv)
theorem ApartV.ne' {v u : Value} (h : ApartV v u) : v.ownBlock = none ∨ v.ownBlock ≠ u.ownBlock := by
  cases hv : v.ownBlock with
  | none => exact .inl rfl
  | some k => exact .inr fun e => h k hv e.symm
theorem bwN_length (k i o : Int) (ps xs ds : List Int) : (bwN k i o ps xs ds).length ≤ 6 := by
  cases h : bwOk k i o ps xs ds with
  | false => rw [(bw_no h).1]; decide
  | true => exact (vecOkB_has (bw_size h).2.1).2.1
theorem bwG_length (k i o : Int) (ps xs ds : List Int) : (bwG k i o ps xs ds).length ≤ 36 := by
  cases h : bwOk k i o ps xs ds with
  | false => rw [(bw_no h).2.1]; decide
  | true =>
    have h1 := (bw_size h).2.2
    unfold opSz at h1
    split at h1
    · rename_i hh
      simp only [Bool.and_eq_true] at hh
      have hp := prod36 hh.1 hh.2
      have hi := inB_has hh.1
      split at h1
      · omega
      · split at h1
        · omega
        · split at h1 <;> omega
    · omega
theorem apart_after {base b2 : Nat} {w w' : World} {v u : Value} {zs gs : List Int} (h : Row base w v zs) (h' : Row b2 w' u gs) (hb : w.heap.size ≤ b2) : ApartV u v := fun k hu hv => by
  have a := (h.lt k hv).2
  have b := (h'.lt k hu).1
  omega
theorem owns_empty (w : World) : (w.alloc (.cells #[] 3 (0, 0))).ownsRow w.heap.size 3 1 (.slice (some ⟨w.heap.size, 0, none⟩) 0 0) 0 [] := Row.empty w _ rfl
theorem row_first {base : Nat} {w : World} {v : Value} {n : Nat} {ds : List Int} (h : w.ownsRow base 3 1 v (0 + n) ([] ++ icells ds)) : Row base w v ds := by
  have hl : ds.length = n := by
    have := h.1
    rw [List.nil_append, icells_length] at this
    omega
  unfold Row
  rw [hl]
  simpa using h
/-- One number, in a row of its own. -/
theorem Row.one (w : World) (x : Int) : Row w.heap.size (w.alloc (.cells #[.int .i64 x] 3 (0, 0))) (.slice (some ⟨w.heap.size, 0, none⟩) 1 1) [x] :=
  ⟨rfl, .inr ⟨_, 1, _, rfl, Nat.le_refl _, heap_alloc_new w _, Nat.le_refl _, by unfold maxLen; omega, rfl, rfl⟩⟩

theorem bwN_is {k i o : Int} {ps xs ds : List Int} (h : bwOk k i o ps xs ds = true) : bwN k i o ps xs ds = (if k = 1 then mbN o i ps ds else if k = 2 then ds else if k = 3 then rowP maskN xs ds else if k = 4 then scaleN (ps.getD 0 0) ds else rowP addN ds (mbN o i ps ds)) ∧
    bwG k i o ps xs ds = (if k = 1 ∨ k = 5 then outN ds xs else if k = 2 then ds else if k = 4 then [dotN ds xs] else []) ∧
    bwB k i o ps xs ds = (if k = 1 then mbB o i ps ds || outB ds xs else if k = 2 then false else if k = 3 then false else if k = 4 then scaleB (ps.getD 0 0) ds || dotB ds xs else mbB o i ps ds || outB ds xs || flagP addB ds (mbN o i ps ds)) := by
  unfold bwN bwG bwB
  rw [h]
  exact ⟨rfl, rfl, rfl⟩

set_option maxRecDepth 100000 in
set_option maxHeartbeats 6400000 in
theorem specOpBackward_any (w : World) (k i o : Int) (a : Option Addr) (n cp : Nat) (ps : List Int) (a2 : Option Addr) (n2 c4 : Nat) (xs : List Int) (a3 : Option Addr) (n3 c6 : Nat) (ds : List Int) (h1 : IntsIn w.heap.size w a n ps) (hcp : n ≤ cp) (hcap : cp ≤ 9223372036854775807) (h2 : IntsIn w.heap.size w a2 n2 xs) (h3 : IntsIn w.heap.size w a3 n3 ds) :
    Calls Tryz.prog 176 #[.agg #[.int .i64 k, .int .i64 i, .int .i64 o, .slice a n cp], .slice a2 n2 c4, .slice a3 n3 c6] w (RowsB w (bwN k i o ps xs ds) (bwG k i o ps xs ds) (bwB k i o ps xs ds)) := by
  obtain ⟨i0, hi0, hz0, hz1, hz2⟩ := info_parts Tryz.infoI64
  have hal : Below w.heap.size w (w.alloc (.cells #[.int .i64 k, .int .i64 i, .int .i64 o, .slice a n cp] 38 (0, 0))) := (Below.refl _ _).alloc (Nat.le_refl _) _
  have hb0 := heap_alloc_new w (.cells #[.int .i64 k, .int .i64 i, .int .i64 o, .slice a n cp] 38 (0, 0))
  have hs0 : (w.alloc (.cells #[.int .i64 k, .int .i64 i, .int .i64 o, .slice a n cp] 38 (0, 0))).heap.size = w.heap.size + 1 := by simp
  have l1 := h1.len
  have l2 := h2.len
  have l3 := h3.len
  have HP := Lib.hid (h1.below hal (Nat.le_refl _))
  have HX := Lib.hid (h2.below hal (Nat.le_refl _))
  have HY := Lib.hid (h3.below hal (Nat.le_refl _))
  have HA := Lib.hid hal
  have HB0 := Lib.hid hb0
  have HM := fun (w : World) (h : IntsIn w.heap.size w a n ps) => specOpOk_any w k i o a n cp ps h
  have HV := fun (w : World) (h : IntsIn w.heap.size w a2 n2 xs) => specVecOk_any w a2 n2 c4 xs h
  have HU := fun (w : World) (h : IntsIn w.heap.size w a3 n3 ds) => specVecOk_any w a3 n3 c6 ds h
  have hroom := h2.room
  have hroom3 := h3.room
  clear h1 h2 h3 hal hb0
  cases hk : opOkB k i o ps with
  | false =>
    have hf : bwOk k i o ps xs ds = false := by unfold bwOk fwOk; rw [hk]; rfl
    obtain ⟨e1, e2, e3⟩ := bw_no hf
    rw [e1, e2, e3]
    rw [hk] at HM
    replace HM := Lib.hid HM
    clear hk hf e1 e2 e3 HV HU l1 l2 l3
    go_enter Tryz.func176, Tryz.ntmps176
    go_wp2_with fail
    generalize w.alloc (.cells #[.int .i64 k, .int .i64 i, .int .i64 o, .slice a n cp] 38 (0, 0)) = wa at HP HX HY HA HB0 hs0 ⊢
    refine (HM.out _ (HP.out.le (by omega))).mono ?_
    rintro e w1 ⟨rfl, hb⟩
    have hsz := hb.size
    have HB := Lib.hid (HA.out.trans (hb.mono (by omega)))
    have HX1 := Lib.hid (HX.out.below hb (by omega))
    have HY1 := Lib.hid (HY.out.below hb (by omega))
    have HP1 := Lib.hid (HP.out.below hb (by omega))
    obtain ⟨⟨c0, c1, c2, c3⟩, -⟩ := cells4 ((hb.block w.heap.size (by omega)).trans HB0.out)
    have HB1 := Lib.hid ((hb.block w.heap.size (by omega)).trans HB0.out)
    clear hb
    go_wp2_with fail
    go_ret3
    have hr1 := Row.empty w1 _ rfl
    have hr2 := Row.empty (w1.alloc (.cells #[] 3 (0, 0))) _ rfl
    have hb2 : Below w1.heap.size w1 ((w1.alloc (.cells #[] 3 (0, 0))).alloc (.cells #[] 3 (0, 0))) := ((Below.refl _ _).alloc (Nat.le_refl _) _).alloc (by simp) _
    have hs2 : (w1.alloc (.cells #[] 3 (0, 0))).heap.size = w1.heap.size + 1 := by simp
    rw [hs2] at hr2
    exact ⟨_, _, rfl, (hr1.below ((Below.refl _ _).alloc (Nat.le_refl _) _)).le HB.out.size, hr2.le (by have := HB.out.size; omega), apart_before hr1 hr2 (by omega), HB.out.trans (hb2.mono HB.out.size)⟩
  | true =>
    rw [hk] at HM
    replace HM := Lib.hid HM
    cases hv : vecOkB xs with
    | false =>
      have hf : bwOk k i o ps xs ds = false := by unfold bwOk fwOk; rw [hk, hv]; rfl
      obtain ⟨e1, e2, e3⟩ := bw_no hf
      rw [e1, e2, e3]
      rw [hv] at HV
      replace HV := Lib.hid HV
      clear hk hv hf e1 e2 e3 HU l1 l2 l3
      go_enter Tryz.func176, Tryz.ntmps176
      go_wp2_with fail
      generalize w.alloc (.cells #[.int .i64 k, .int .i64 i, .int .i64 o, .slice a n cp] 38 (0, 0)) = wa at HP HX HY HA HB0 hs0 ⊢
      refine (HM.out _ (HP.out.le (by omega))).mono ?_
      rintro e w1 ⟨rfl, hb⟩
      have hsz := hb.size
      have HB := Lib.hid (HA.out.trans (hb.mono (by omega)))
      have HX1 := Lib.hid (HX.out.below hb (by omega))
      have HY1 := Lib.hid (HY.out.below hb (by omega))
      have HP1 := Lib.hid (HP.out.below hb (by omega))
      obtain ⟨⟨c0, c1, c2, c3⟩, -⟩ := cells4 ((hb.block w.heap.size (by omega)).trans HB0.out)
      have HB1 := Lib.hid ((hb.block w.heap.size (by omega)).trans HB0.out)
      clear hb
      go_wp2_with fail
      refine (HV.out _ (HX1.out.le (by omega))).mono ?_
      rintro e w' ⟨rfl, rfl⟩
      go_wp2_with fail
      go_ret3
      have hr1 := Row.empty w1 _ rfl
      have hr2 := Row.empty (w1.alloc (.cells #[] 3 (0, 0))) _ rfl
      have hb2 : Below w1.heap.size w1 ((w1.alloc (.cells #[] 3 (0, 0))).alloc (.cells #[] 3 (0, 0))) := ((Below.refl _ _).alloc (Nat.le_refl _) _).alloc (by simp) _
      have hs2 : (w1.alloc (.cells #[] 3 (0, 0))).heap.size = w1.heap.size + 1 := by simp
      rw [hs2] at hr2
      exact ⟨_, _, rfl, (hr1.below ((Below.refl _ _).alloc (Nat.le_refl _) _)).le HB.out.size, hr2.le (by have := HB.out.size; omega), apart_before hr1 hr2 (by omega), HB.out.trans (hb2.mono HB.out.size)⟩
    | true =>
      rw [hv] at HV
      replace HV := Lib.hid HV
      by_cases hn : (n2 : Int) = i
      · cases hu : vecOkB ds with
        | false =>
          have hf : bwOk k i o ps xs ds = false := by unfold bwOk fwOk; rw [hk, hv, hu, l2, decide_eq_true hn]; rfl
          obtain ⟨e1, e2, e3⟩ := bw_no hf
          rw [e1, e2, e3]
          rw [hu] at HU
          replace HU := Lib.hid HU
          clear hk hv hu hf e1 e2 e3 l1 l2 l3
          go_enter Tryz.func176, Tryz.ntmps176
          go_wp2_with fail
          generalize w.alloc (.cells #[.int .i64 k, .int .i64 i, .int .i64 o, .slice a n cp] 38 (0, 0)) = wa at HP HX HY HA HB0 hs0 ⊢
          refine (HM.out _ (HP.out.le (by omega))).mono ?_
          rintro e w1 ⟨rfl, hb⟩
          have hsz := hb.size
          have HB := Lib.hid (HA.out.trans (hb.mono (by omega)))
          have HX1 := Lib.hid (HX.out.below hb (by omega))
          have HY1 := Lib.hid (HY.out.below hb (by omega))
          have HP1 := Lib.hid (HP.out.below hb (by omega))
          obtain ⟨⟨c0, c1, c2, c3⟩, -⟩ := cells4 ((hb.block w.heap.size (by omega)).trans HB0.out)
          have HB1 := Lib.hid ((hb.block w.heap.size (by omega)).trans HB0.out)
          clear hb
          go_wp2_with fail
          refine (HV.out _ (HX1.out.le (by omega))).mono ?_
          rintro e w' ⟨rfl, rfl⟩
          go_wp2_with fail
          refine (HU.out _ (HY1.out.le (by omega))).mono ?_
          rintro e w' ⟨rfl, rfl⟩
          go_wp2_with fail
          go_ret3
          have hr1 := Row.empty w1 _ rfl
          have hr2 := Row.empty (w1.alloc (.cells #[] 3 (0, 0))) _ rfl
          have hb2 : Below w1.heap.size w1 ((w1.alloc (.cells #[] 3 (0, 0))).alloc (.cells #[] 3 (0, 0))) := ((Below.refl _ _).alloc (Nat.le_refl _) _).alloc (by simp) _
          have hs2 : (w1.alloc (.cells #[] 3 (0, 0))).heap.size = w1.heap.size + 1 := by simp
          rw [hs2] at hr2
          exact ⟨_, _, rfl, (hr1.below ((Below.refl _ _).alloc (Nat.le_refl _) _)).le HB.out.size, hr2.le (by have := HB.out.size; omega), apart_before hr1 hr2 (by omega), HB.out.trans (hb2.mono HB.out.size)⟩
        | true =>
          rw [hu] at HU
          replace HU := Lib.hid HU
          by_cases hm : (n3 : Int) = o
          · have hf : bwOk k i o ps xs ds = true := by unfold bwOk fwOk; rw [hk, hv, hu, l2, l3, decide_eq_true hn, decide_eq_true hm]; rfl
            obtain ⟨e1, e2, e3⟩ := bwN_is hf
            rw [e1, e2, e3]
            obtain ⟨m, q, hi, ho, hmm, hqq, hio, hk5, hps, -⟩ := opOkB_has hk
            rw [l1, hi, ho, opSz_in hmm hqq] at hps
            have hb5 := inB_has hk5
            have hkk : k = 1 ∨ k = 2 ∨ k = 3 ∨ k = 4 ∨ k = 5 := by omega
            have L3 := Lib.hid l3
            have hdn := (vecOkB_has hu).1
            have hdn6 := (vecOkB_has hu).2.1
            rw [l3] at hdn hdn6
            have hxn := (vecOkB_has hv).1
            have hxn6 := (vecOkB_has hv).2.1
            rw [l2] at hxn hxn6
            clear hk hv hu hf e1 e2 e3 hk5 hb5 hi ho hio
            rcases hkk with rfl | rfl | rfl | rfl | rfl
            · simp only [Int.reduceEq, if_true, if_false, or_false] at hps ⊢
              obtain ⟨zs, hzs⟩ : ∃ zs, mbN o i ps ds = zs := ⟨_, rfl⟩
              obtain ⟨mb, hmb⟩ : ∃ mb, mbB o i ps ds = mb := ⟨_, rfl⟩
              obtain ⟨ob, hob⟩ : ∃ ob, outB ds xs = ob := ⟨_, rfl⟩
              obtain ⟨gs, hgs⟩ : ∃ gs, outN ds xs = gs := ⟨_, rfl⟩
              have hl6 := mbN_length o i ps ds
              have HMB := fun (w : World) (h1 : IntsIn w.heap.size w a n ps) (h2 : IntsIn w.heap.size w a3 n3 ds) => specMatBack_any w o i a n cp ps a3 n3 c6 ds h1 hcp hcap h2
              have HOU := fun (w : World) (h1 : IntsIn w.heap.size w a3 n3 ds) (h2 : IntsIn w.heap.size w a2 n2 xs) => specOuter_any w a3 n3 c6 ds a2 n2 c4 xs h1 h2
              rw [hzs, hmb] at HMB
              rw [hzs] at hl6
              rw [hob, hgs] at HOU
              rw [hzs, hmb, hob, hgs]
              replace HMB := Lib.hid HMB
              replace HOU := Lib.hid HOU
              clear hzs hmb hob hgs
              go_enter Tryz.func176, Tryz.ntmps176
              go_wp2_with fail
              generalize w.alloc (.cells #[.int .i64 1, .int .i64 i, .int .i64 o, .slice a n cp] 38 (0, 0)) = wa at HP HX HY HA HB0 hs0 ⊢
              refine (HM.out _ (HP.out.le (by omega))).mono ?_
              rintro e w1 ⟨rfl, hb⟩
              have hsz := hb.size
              have HB := Lib.hid (HA.out.trans (hb.mono (by omega)))
              have HX1 := Lib.hid (HX.out.below hb (by omega))
              have HY1 := Lib.hid (HY.out.below hb (by omega))
              have HP1 := Lib.hid (HP.out.below hb (by omega))
              obtain ⟨⟨c0, c1, c2, c3⟩, -⟩ := cells4 ((hb.block w.heap.size (by omega)).trans HB0.out)
              have HB1 := Lib.hid ((hb.block w.heap.size (by omega)).trans HB0.out)
              clear hb
              go_wp2_with fail
              refine (HV.out _ (HX1.out.le (by omega))).mono ?_
              rintro e w' ⟨rfl, rfl⟩
              go_wp2_with fail
              refine (HU.out _ (HY1.out.le (by omega))).mono ?_
              rintro e w' ⟨rfl, rfl⟩
              go_wp2_with fail
              refine (l5Mat_any _ _ _ _ _ _ _).mono ?_
              rintro e w2 ⟨rfl, hb2⟩
              have hs2 := hb2.size
              have HB2 := Lib.hid hb2
              clear hb2
              go_wp2_with fail
              refine (HMB.out w2 ((HP1.out.below HB2.out (by omega)).le (by omega)) ((HY1.out.below HB2.out (by omega)).le (by omega))).mono ?_
              rintro e w3 ⟨v, rfl, hr, hb3⟩
              have hs3 := hb3.size
              have HB3 := Lib.hid (HB2.out.trans (hb3.mono hs2))
              have HR3 := Lib.hid hr
              clear hb3 hr
              go_wp2_with fail
              refine (HOU.out w3 (((HY1.out.below HB3.out (by omega))).le (by omega)) (((HX1.out.below HB3.out (by omega))).le (by omega))).mono ?_
              rintro e w4 ⟨u, rfl, hr4, hb4⟩
              have hs4 := hb4.size
              have HB4 := Lib.hid (HB3.out.trans (hb4.mono (by omega)))
              have HR4 := Lib.hid hr4
              have HR34 := Lib.hid (HR3.out.below hb4)
              have hap := apart_before HR3.out hr4 (Nat.le_refl _)
              have HAP := Lib.hid hap
              obtain ⟨a7, c7, rfl, -⟩ := hr4.form
              clear hb4 hr4 hap c0 c1 c2 c3
              obtain ⟨RR, hRR⟩ : ∃ x, outR ds xs = x := ⟨_, rfl⟩
              obtain ⟨CC, hCC⟩ : ∃ x, outC ds xs = x := ⟨_, rfl⟩
              rw [hRR, hCC]
              clear hRR hCC
              go_upto_region 14 with fail
              have hk := heap_alloc_new w4 (.cells #[.int .i64 RR, .int .i64 CC, .slice a7 gs.length c7] 245 (0, 0))
              have hb5 := (Below.refl w4.heap.size w4).alloc (Nat.le_refl _) (.cells #[.int .i64 RR, .int .i64 CC, .slice a7 gs.length c7] 245 (0, 0))
              have hs5 : w4.heap.size < (w4.alloc (.cells #[.int .i64 RR, .int .i64 CC, .slice a7 gs.length c7] 245 (0, 0))).heap.size := by simp
              generalize w4.alloc (.cells #[.int .i64 RR, .int .i64 CC, .slice a7 gs.length c7] 245 (0, 0)) = w5 at hk hb5 hs5 ⊢
              have HB5 := Lib.hid (HB4.out.trans (hb5.mono (by omega)))
              have HR45 := Lib.hid (HR4.out.below hb5)
              have HR35 := Lib.hid (HR34.out.below hb5)
              have HK5 := Lib.hid hk
              obtain ⟨⟨d0, d1, d2⟩, -⟩ := cells3 hk
              obtain ⟨c00, c01, c02, c03⟩ := (cells4 ((HB5.out.block w.heap.size (by omega)).trans HB1.out)).1
              clear hk hb5
              cases mb
              all_goals
                go_upto_region 15 with fail
                go_quiet (fail)
                go_wp2_with fail
                go_ret3
                exact ⟨_, _, rfl, (HR35.out.drewN _).le (by omega), (HR45.out.drewN _).le (by omega), HAP.out, drewN_below (HB.out.trans (HB5.out.mono (by omega))) _⟩
            · simp only [Int.reduceEq, if_true, if_false, or_self] at hps ⊢
              go_enter Tryz.func176, Tryz.ntmps176
              go_wp2_with fail
              generalize w.alloc (.cells #[.int .i64 2, .int .i64 i, .int .i64 o, .slice a n cp] 38 (0, 0)) = wa at HP HX HY HA HB0 hs0 ⊢
              refine (HM.out _ (HP.out.le (by omega))).mono ?_
              rintro e w1 ⟨rfl, hb⟩
              have hsz := hb.size
              have HB := Lib.hid (HA.out.trans (hb.mono (by omega)))
              have HX1 := Lib.hid (HX.out.below hb (by omega))
              have HY1 := Lib.hid (HY.out.below hb (by omega))
              have HP1 := Lib.hid (HP.out.below hb (by omega))
              obtain ⟨⟨c0, c1, c2, c3⟩, -⟩ := cells4 ((hb.block w.heap.size (by omega)).trans HB0.out)
              have HB1 := Lib.hid ((hb.block w.heap.size (by omega)).trans HB0.out)
              clear hb
              go_wp2_with fail
              refine (HV.out _ (HX1.out.le (by omega))).mono ?_
              rintro e w' ⟨rfl, rfl⟩
              go_wp2_with fail
              refine (HU.out _ (HY1.out.le (by omega))).mono ?_
              rintro e w' ⟨rfl, rfl⟩
              obtain ⟨b, p, rfl, hbB, -⟩ := HY1.out.cells 0 (by omega)
              have HL3 := L3
              have Hw1 := Lib.hid (Below.refl w1.heap.size w1)
              go_wp2_with (first
                | (at_builtin; refine wpList_append_own _ rfl _ _ 28 rfl w1.heap.size 3 i0 (.int .i64 0) 1 8 Tryz.underlying28 hi0 hz0 hz1 hz2 rfl (by decide) _ _ _ rfl (owns_empty w1) ⟨b, p, none⟩ n3 c6 (icells ds) rfl (by rw [icells_length, HL3.out, Nat.mul_one]) (ints_news ((HY1.out.below Hw1.out (by omega)).below ((Below.refl w1.heap.size w1).alloc (Nat.le_refl _) _) (by omega))) (icells_one _) (by unfold maxLen; omega) (by omega) (by simp) ?_; intro v2 w2 hown hgrow _; have hr := row_first hown; have hb := ((Below.refl w1.heap.size w1).alloc (Nat.le_refl _) (.cells #[] 3 (0, 0))).grown hgrow (by simp) (fun k e => by cases e; exact Nat.le_refl _); have sw2 := hb.size; have Hw2 := Lib.hid (Hw1.out.trans (hb.mono (by omega))); have Rw2 := Lib.hid hr; have BBw2 := Lib.hid hb; clear hown hgrow hr hb)
                | (at_builtin; refine wpList_append_own _ rfl _ _ 28 rfl w2.heap.size 3 i0 (.int .i64 0) 1 8 Tryz.underlying28 hi0 hz0 hz1 hz2 rfl (by decide) _ _ _ rfl (owns_empty w2) ⟨b, p, none⟩ n3 c6 (icells ds) rfl (by rw [icells_length, HL3.out, Nat.mul_one]) (ints_news ((HY1.out.below Hw2.out (by omega)).below ((Below.refl w2.heap.size w2).alloc (Nat.le_refl _) _) (by omega))) (icells_one _) (by unfold maxLen; omega) (by omega) (by simp) ?_; intro v3 w3 hown hgrow _; have hr := row_first hown; have hb := ((Below.refl w2.heap.size w2).alloc (Nat.le_refl _) (.cells #[] 3 (0, 0))).grown hgrow (by simp) (fun k e => by cases e; exact Nat.le_refl _); have sw3 := hb.size; have Hw3 := Lib.hid (Hw2.out.trans (hb.mono (by omega))); have Rw3 := Lib.hid hr; have BBw3 := Lib.hid hb; clear hown hgrow hr hb))
              go_ret3
              exact ⟨_, _, rfl, (Rw2.out.below BBw3.out).le (by omega), Rw3.out.le (by omega), apart_before Rw2.out Rw3.out (Nat.le_refl _), HB.out.trans (Hw3.out.mono (by omega))⟩
            · simp only [Int.reduceEq, if_true, if_false, or_self] at hps ⊢
              go_enter Tryz.func176, Tryz.ntmps176
              go_wp2_with fail
              generalize w.alloc (.cells #[.int .i64 3, .int .i64 i, .int .i64 o, .slice a n cp] 38 (0, 0)) = wa at HP HX HY HA HB0 hs0 ⊢
              refine (HM.out _ (HP.out.le (by omega))).mono ?_
              rintro e w1 ⟨rfl, hb⟩
              have hsz := hb.size
              have HB := Lib.hid (HA.out.trans (hb.mono (by omega)))
              have HX1 := Lib.hid (HX.out.below hb (by omega))
              have HY1 := Lib.hid (HY.out.below hb (by omega))
              have HP1 := Lib.hid (HP.out.below hb (by omega))
              obtain ⟨⟨c0, c1, c2, c3⟩, -⟩ := cells4 ((hb.block w.heap.size (by omega)).trans HB0.out)
              have HB1 := Lib.hid ((hb.block w.heap.size (by omega)).trans HB0.out)
              clear hb
              go_wp2_with fail
              refine (HV.out _ (HX1.out.le (by omega))).mono ?_
              rintro e w' ⟨rfl, rfl⟩
              go_wp2_with fail
              refine (HU.out _ (HY1.out.le (by omega))).mono ?_
              rintro e w' ⟨rfl, rfl⟩
              go_wp2_with fail
              refine (specVecMask_any w1 a2 n2 c4 xs a3 n3 c6 ds (HX1.out.le (by omega)) (HY1.out.le (by omega))).mono ?_
              rintro e w3 ⟨v, rfl, hr, hb3⟩
              have HB3 := Lib.hid hb3
              have HR3 := Lib.hid hr
              clear hb3 hr
              go_wp2_with fail
              go_ret3
              have hr2 := Row.empty w3 _ rfl
              exact ⟨_, _, rfl, (HR3.out.below ((Below.refl _ _).alloc (Nat.le_refl _) _)).le (by omega), hr2.le (by have := HB3.out.size; omega), apart_before HR3.out hr2 (Nat.le_refl _), (HB.out.trans (HB3.out.mono (by omega))).alloc (by have := HB3.out.size; omega) _⟩
            · simp only [Int.reduceEq, if_true, if_false, or_self] at hps ⊢
              obtain ⟨Y, hY⟩ : ∃ Y, Y = ps.getD 0 0 := ⟨_, rfl⟩
              rw [← hY]
              obtain ⟨g1, hg1⟩ : ∃ g, scaleB Y ds = g := ⟨_, rfl⟩
              obtain ⟨g2, hg2⟩ : ∃ g, dotB ds xs = g := ⟨_, rfl⟩
              have hT := fun (w : World) (h : IntsIn w.heap.size w a3 n3 ds) => specVecScale_any Y w a3 n3 c6 ds h
              have hD := fun (w : World) (h : IntsIn w.heap.size w a3 n3 ds) (h' : IntsIn w.heap.size w a2 n2 xs) => specVecDot_any w a3 n3 c6 ds a2 n2 c4 xs h h'
              rw [hg1] at hT ⊢
              rw [hg2] at hD ⊢
              have HT := Lib.hid hT
              have HD := Lib.hid hD
              have HYY := Lib.hid hY
              clear hY hT hD hg1 hg2
              go_enter Tryz.func176, Tryz.ntmps176
              go_wp2_with fail
              generalize w.alloc (.cells #[.int .i64 4, .int .i64 i, .int .i64 o, .slice a n cp] 38 (0, 0)) = wa at HP HX HY HA HB0 hs0 ⊢
              refine (HM.out _ (HP.out.le (by omega))).mono ?_
              rintro e w1 ⟨rfl, hb⟩
              have hsz := hb.size
              have HB := Lib.hid (HA.out.trans (hb.mono (by omega)))
              have HX1 := Lib.hid (HX.out.below hb (by omega))
              have HY1 := Lib.hid (HY.out.below hb (by omega))
              have HP1 := Lib.hid (HP.out.below hb (by omega))
              obtain ⟨⟨c0, c1, c2, c3⟩, -⟩ := cells4 ((hb.block w.heap.size (by omega)).trans HB0.out)
              have HB1 := Lib.hid ((hb.block w.heap.size (by omega)).trans HB0.out)
              clear hb
              go_wp2_with fail
              refine (HV.out _ (HX1.out.le (by omega))).mono ?_
              rintro e w' ⟨rfl, rfl⟩
              go_wp2_with fail
              refine (HU.out _ (HY1.out.le (by omega))).mono ?_
              rintro e w' ⟨rfl, rfl⟩
              obtain ⟨b, p, rfl, hbB, hcell⟩ := HP1.out.cells 0 (by omega)
              rw [← HYY.out] at hcell
              have hcell' : w1.cell? ⟨b, p, none⟩ = some (.int .i64 Y) := hcell
              clear hcell
              have hn1 : n = 1 := by omega
              cases g1
              all_goals
                go_wp2_with fail
                refine (HT.out w1 (HY1.out.le (by omega))).mono ?_
                rintro e w3 ⟨v, rfl, hr, hb3⟩
                have hs3 := hb3.size
                have HB3 := Lib.hid hb3
                have HR3 := Lib.hid hr
                clear hb3 hr
                go_wp2_with fail
                refine (HD.out w3 ((HY1.out.below HB3.out (by omega)).le (by omega)) ((HX1.out.below HB3.out (by omega)).le (by omega))).mono ?_
                rintro e w4 ⟨rfl, hb4⟩
                have hs4 := hb4.size
                have HB4 := Lib.hid (HB3.out.trans (hb4.mono hs3))
                have HR4 := Lib.hid (HR3.out.below hb4)
                clear hb4
                go_wp2_with fail
                go_ret3
                have hr2 := Row.one w4 (dotN ds xs)
                exact ⟨_, _, rfl, (HR4.out.below ((Below.refl _ _).alloc (Nat.le_refl _) _)).le (by omega), hr2.le (by omega), apart_before HR4.out hr2 (Nat.le_refl _), (HB.out.trans (HB4.out.mono (by omega))).alloc (by omega) _⟩
            · simp only [Int.reduceEq, if_true, if_false, or_true] at hps ⊢
              obtain ⟨zs, hzs⟩ : ∃ zs, mbN o i ps ds = zs := ⟨_, rfl⟩
              obtain ⟨mb, hmb⟩ : ∃ mb, mbB o i ps ds = mb := ⟨_, rfl⟩
              obtain ⟨ob, hob⟩ : ∃ ob, outB ds xs = ob := ⟨_, rfl⟩
              obtain ⟨gs, hgs⟩ : ∃ gs, outN ds xs = gs := ⟨_, rfl⟩
              have hl6 := mbN_length o i ps ds
              have HMB := fun (w : World) (h1 : IntsIn w.heap.size w a n ps) (h2 : IntsIn w.heap.size w a3 n3 ds) => specMatBack_any w o i a n cp ps a3 n3 c6 ds h1 hcp hcap h2
              have HOU := fun (w : World) (h1 : IntsIn w.heap.size w a3 n3 ds) (h2 : IntsIn w.heap.size w a2 n2 xs) => specOuter_any w a3 n3 c6 ds a2 n2 c4 xs h1 h2
              rw [hzs, hmb] at HMB
              rw [hzs] at hl6
              rw [hob, hgs] at HOU
              rw [hzs, hmb, hob, hgs]
              replace HMB := Lib.hid HMB
              replace HOU := Lib.hid HOU
              clear hzs hmb hob hgs
              go_enter Tryz.func176, Tryz.ntmps176
              go_wp2_with fail
              generalize w.alloc (.cells #[.int .i64 5, .int .i64 i, .int .i64 o, .slice a n cp] 38 (0, 0)) = wa at HP HX HY HA HB0 hs0 ⊢
              refine (HM.out _ (HP.out.le (by omega))).mono ?_
              rintro e w1 ⟨rfl, hb⟩
              have hsz := hb.size
              have HB := Lib.hid (HA.out.trans (hb.mono (by omega)))
              have HX1 := Lib.hid (HX.out.below hb (by omega))
              have HY1 := Lib.hid (HY.out.below hb (by omega))
              have HP1 := Lib.hid (HP.out.below hb (by omega))
              obtain ⟨⟨c0, c1, c2, c3⟩, -⟩ := cells4 ((hb.block w.heap.size (by omega)).trans HB0.out)
              have HB1 := Lib.hid ((hb.block w.heap.size (by omega)).trans HB0.out)
              clear hb
              go_wp2_with fail
              refine (HV.out _ (HX1.out.le (by omega))).mono ?_
              rintro e w' ⟨rfl, rfl⟩
              go_wp2_with fail
              refine (HU.out _ (HY1.out.le (by omega))).mono ?_
              rintro e w' ⟨rfl, rfl⟩
              go_wp2_with fail
              refine (l5Mat_any _ _ _ _ _ _ _).mono ?_
              rintro e w2 ⟨rfl, hb2⟩
              have hs2 := hb2.size
              have HB2 := Lib.hid hb2
              clear hb2
              go_wp2_with fail
              refine (HMB.out w2 ((HP1.out.below HB2.out (by omega)).le (by omega)) ((HY1.out.below HB2.out (by omega)).le (by omega))).mono ?_
              rintro e w3 ⟨v, rfl, hr, hb3⟩
              have hs3 := hb3.size
              have HB3 := Lib.hid (HB2.out.trans (hb3.mono hs2))
              have HR3 := Lib.hid hr
              clear hb3 hr
              go_wp2_with fail
              refine (HOU.out w3 (((HY1.out.below HB3.out (by omega))).le (by omega)) (((HX1.out.below HB3.out (by omega))).le (by omega))).mono ?_
              rintro e w4 ⟨u, rfl, hr4, hb4⟩
              have hs4 := hb4.size
              have HB4 := Lib.hid (HB3.out.trans (hb4.mono (by omega)))
              have HR4 := Lib.hid hr4
              have HR34 := Lib.hid (HR3.out.below hb4)
              have hap := apart_before HR3.out hr4 (Nat.le_refl _)
              have HAP := Lib.hid hap
              obtain ⟨a7, c7, rfl, -⟩ := hr4.form
              clear hb4 hr4 hap c0 c1 c2 c3
              obtain ⟨RR, hRR⟩ : ∃ x, outR ds xs = x := ⟨_, rfl⟩
              obtain ⟨CC, hCC⟩ : ∃ x, outC ds xs = x := ⟨_, rfl⟩
              rw [hRR, hCC]
              clear hRR hCC
              go_upto_region 14 with fail
              have hk := heap_alloc_new w4 (.cells #[.int .i64 RR, .int .i64 CC, .slice a7 gs.length c7] 245 (0, 0))
              have hb5 := (Below.refl w4.heap.size w4).alloc (Nat.le_refl _) (.cells #[.int .i64 RR, .int .i64 CC, .slice a7 gs.length c7] 245 (0, 0))
              have hs5 : w4.heap.size < (w4.alloc (.cells #[.int .i64 RR, .int .i64 CC, .slice a7 gs.length c7] 245 (0, 0))).heap.size := by simp
              generalize w4.alloc (.cells #[.int .i64 RR, .int .i64 CC, .slice a7 gs.length c7] 245 (0, 0)) = w5 at hk hb5 hs5 ⊢
              have HB5 := Lib.hid (HB4.out.trans (hb5.mono (by omega)))
              have HR45 := Lib.hid (HR4.out.below hb5)
              have HR35 := Lib.hid (HR34.out.below hb5)
              have HK5 := Lib.hid hk
              obtain ⟨⟨d0, d1, d2⟩, -⟩ := cells3 hk
              obtain ⟨c00, c01, c02, c03⟩ := (cells4 ((HB5.out.block w.heap.size (by omega)).trans HB1.out)).1
              clear hk hb5
              go_wp2_with fail
              obtain ⟨z, hz⟩ : ∃ z, zs.length = z := ⟨_, rfl⟩
              obtain ⟨a8, c8, rfl, hi8⟩ := HR35.out.form' (Lib.hid hz) (by omega)
              obtain ⟨fl, hfl⟩ : ∃ fl, flagP addB ds zs = fl := ⟨_, rfl⟩
              have hT := specVecAdd_any w5 a3 n3 c6 ds a8 z c8 zs ((HY1.out.below HB5.out (by omega)).le (by omega)) hi8
              rw [hfl] at hT
              refine hT.mono ?_
              rintro e w6 ⟨v6, rfl, hr6, hb6⟩
              have hs6 := hb6.size
              have HB6 := Lib.hid (HB5.out.trans (hb6.mono (by omega)))
              have HR6 := Lib.hid hr6
              have HR46 := Lib.hid (HR45.out.below hb6)
              have HAP6 := Lib.hid (apart_after HR45.out hr6 (Nat.le_refl _))
              have HFL := Lib.hid hfl
              obtain ⟨⟨d0, d1, d2⟩, -⟩ := cells3 ((hb6.block w4.heap.size (by omega)).trans HK5.out)
              clear hb6 hr6 hT hi8 hfl c00 c01 c02 c03
              cases mb
              all_goals
                cases ob
                all_goals
                  go_upto_region 17 with fail
                  go_quiet (fail)
                  go_wp2_with fail
                  go_ret3
                  exact ⟨_, _, by rw [HFL.out]; rfl, (HR6.out.drewN _).le (by omega), (HR46.out.drewN _).le (by omega), HAP6.out, drewN_below (HB.out.trans (HB6.out.mono (by omega))) _⟩
          · have hf : bwOk k i o ps xs ds = false := by unfold bwOk fwOk; rw [hk, hv, hu, l2, l3, decide_eq_true hn, decide_eq_false hm]; rfl
            obtain ⟨e1, e2, e3⟩ := bw_no hf
            rw [e1, e2, e3]
            have hne : ((n3 : Int) == o) = false := by simpa using hm
            have hneb : ((n3 : Int) != o) = true := by simpa using hm
            clear hk hv hu hf e1 e2 e3 l1 l2 l3 hm
            go_enter Tryz.func176, Tryz.ntmps176
            go_wp2_with fail
            generalize w.alloc (.cells #[.int .i64 k, .int .i64 i, .int .i64 o, .slice a n cp] 38 (0, 0)) = wa at HP HX HY HA HB0 hs0 ⊢
            refine (HM.out _ (HP.out.le (by omega))).mono ?_
            rintro e w1 ⟨rfl, hb⟩
            have hsz := hb.size
            have HB := Lib.hid (HA.out.trans (hb.mono (by omega)))
            have HX1 := Lib.hid (HX.out.below hb (by omega))
            have HY1 := Lib.hid (HY.out.below hb (by omega))
            have HP1 := Lib.hid (HP.out.below hb (by omega))
            obtain ⟨⟨c0, c1, c2, c3⟩, -⟩ := cells4 ((hb.block w.heap.size (by omega)).trans HB0.out)
            have HB1 := Lib.hid ((hb.block w.heap.size (by omega)).trans HB0.out)
            clear hb
            go_wp2_with fail
            refine (HV.out _ (HX1.out.le (by omega))).mono ?_
            rintro e w' ⟨rfl, rfl⟩
            go_wp2_with fail
            refine (HU.out _ (HY1.out.le (by omega))).mono ?_
            rintro e w' ⟨rfl, rfl⟩
            go_wp2_with fail
            go_ret3
            have hr1 := Row.empty w1 _ rfl
            have hr2 := Row.empty (w1.alloc (.cells #[] 3 (0, 0))) _ rfl
            have hb2 : Below w1.heap.size w1 ((w1.alloc (.cells #[] 3 (0, 0))).alloc (.cells #[] 3 (0, 0))) := ((Below.refl _ _).alloc (Nat.le_refl _) _).alloc (by simp) _
            have hs2 : (w1.alloc (.cells #[] 3 (0, 0))).heap.size = w1.heap.size + 1 := by simp
            rw [hs2] at hr2
            exact ⟨_, _, rfl, (hr1.below ((Below.refl _ _).alloc (Nat.le_refl _) _)).le HB.out.size, hr2.le (by have := HB.out.size; omega), apart_before hr1 hr2 (by omega), HB.out.trans (hb2.mono HB.out.size)⟩
      · have hf : bwOk k i o ps xs ds = false := by unfold bwOk fwOk; rw [hk, hv, l2, decide_eq_false hn]; rfl
        obtain ⟨e1, e2, e3⟩ := bw_no hf
        rw [e1, e2, e3]
        have hne : ((n2 : Int) == i) = false := by simpa using hn
        have hneb : ((n2 : Int) != i) = true := by simpa using hn
        clear hk hv hf e1 e2 e3 l1 l2 l3 hn HU
        go_enter Tryz.func176, Tryz.ntmps176
        go_wp2_with fail
        generalize w.alloc (.cells #[.int .i64 k, .int .i64 i, .int .i64 o, .slice a n cp] 38 (0, 0)) = wa at HP HX HY HA HB0 hs0 ⊢
        refine (HM.out _ (HP.out.le (by omega))).mono ?_
        rintro e w1 ⟨rfl, hb⟩
        have hsz := hb.size
        have HB := Lib.hid (HA.out.trans (hb.mono (by omega)))
        have HX1 := Lib.hid (HX.out.below hb (by omega))
        have HY1 := Lib.hid (HY.out.below hb (by omega))
        have HP1 := Lib.hid (HP.out.below hb (by omega))
        obtain ⟨⟨c0, c1, c2, c3⟩, -⟩ := cells4 ((hb.block w.heap.size (by omega)).trans HB0.out)
        have HB1 := Lib.hid ((hb.block w.heap.size (by omega)).trans HB0.out)
        clear hb
        go_wp2_with fail
        refine (HV.out _ (HX1.out.le (by omega))).mono ?_
        rintro e w' ⟨rfl, rfl⟩
        go_wp2_with fail
        go_ret3
        have hr1 := Row.empty w1 _ rfl
        have hr2 := Row.empty (w1.alloc (.cells #[] 3 (0, 0))) _ rfl
        have hb2 : Below w1.heap.size w1 ((w1.alloc (.cells #[] 3 (0, 0))).alloc (.cells #[] 3 (0, 0))) := ((Below.refl _ _).alloc (Nat.le_refl _) _).alloc (by simp) _
        have hs2 : (w1.alloc (.cells #[] 3 (0, 0))).heap.size = w1.heap.size + 1 := by simp
        rw [hs2] at hr2
        exact ⟨_, _, rfl, (hr1.below ((Below.refl _ _).alloc (Nat.le_refl _) _)).le HB.out.size, hr2.le (by have := HB.out.size; omega), apart_before hr1 hr2 (by omega), HB.out.trans (hb2.mono HB.out.size)⟩
end Go.Proofs.YtpnifgpmleaohaaGreatDoor
