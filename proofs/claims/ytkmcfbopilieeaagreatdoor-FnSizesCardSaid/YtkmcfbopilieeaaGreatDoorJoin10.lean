/-
  The model's MatVec and MatBack.
-/
import Derived.Test.YtkmcfbopilieeaaGreatDoorJoin9
namespace Go.Proofs.YtkmcfbopilieeaaGreatDoor
open Go.RowKit
set_option linter.unusedVariables false

/-- What is empty and has no mark. -/
theorem empty_behind {base : Nat} {w wa w' : World} {v : Value} {zs : List Int} (h : Row base wa v zs) (hb : Below wa.heap.size wa w') : Row base w' v zs := h.below hb

set_option maxRecDepth 100000 in
set_option maxHeartbeats 1600000 in
theorem specMatVec_any (w : World) (r c : Int) (a : Option Addr) (n cp : Nat) (xs : List Int) (a2 : Option Addr) (n2 c2 : Nat) (ys : List Int) (h1 : IntsIn w.heap.size w a n xs) (hcp : n ≤ cp) (hcap : cp ≤ 9223372036854775807) (h2 : IntsIn w.heap.size w a2 n2 ys) :
    Calls Tryz.prog 94 #[.agg #[.int .i64 r, .int .i64 c, .slice a n cp], .slice a2 n2 c2] w (RowB w (mvN r c xs ys) (mvB r c xs ys)) := by
  obtain ⟨i0, hi, hz0, hz1, hz2⟩ := info_parts Tryz.infoI64
  have hroom := h1.room
  have hal : Below w.heap.size w ((w.alloc (.cells #[.int .i64 r, .int .i64 c, .slice a n cp] 122 (0, 0))).alloc (.cells #[] 3 (0, 0))) := ((Below.refl _ _).alloc (Nat.le_refl _) _).alloc (by simp) _
  have hrow := Row.empty (w.alloc (.cells #[.int .i64 r, .int .i64 c, .slice a n cp] 122 (0, 0))) _ rfl
  have hbx : ((w.alloc (.cells #[.int .i64 r, .int .i64 c, .slice a n cp] 122 (0, 0))).alloc (.cells #[] 3 (0, 0))).heap[w.heap.size]? = some (.cells #[.int .i64 r, .int .i64 c, .slice a n cp] 122 (0, 0)) := by
    rw [Below.heap_alloc _ _ _ (by simp)]
    exact heap_alloc_new w _
  have hsz : (w.alloc (.cells #[.int .i64 r, .int .i64 c, .slice a n cp] 122 (0, 0))).heap.size = w.heap.size + 1 := by simp
  rw [hsz] at hrow
  have LX := Lib.hid h1.len
  have LY := Lib.hid h2.len
  have HX := Lib.hid (h1.below hal (Nat.le_refl _))
  have HY := Lib.hid (h2.below hal (Nat.le_refl _))
  have HA := Lib.hid hal
  have HR0 := Lib.hid hrow
  have HB0 := Lib.hid hbx
  clear hal hrow hbx hsz
  have HM := fun (w : World) (h : IntsIn w.heap.size w a n xs) => specMatOk_any w r c a n cp xs h
  have HV := fun (w : World) (h : IntsIn w.heap.size w a2 n2 ys) => specVecOk_any w a2 n2 c2 ys h
  unfold mvN mvB
  cases hm : matOkB r c xs with
  | false =>
    have ho : mvOk r c xs ys = false := by unfold mvOk; rw [hm]; rfl
    rw [ho]
    rw [hm] at HM
    replace HM := Lib.hid HM
    clear hm ho HV h1 h2
    go_enter Tryz.func94, Tryz.ntmps94
    go_wp2_with fail
    generalize (w.alloc (.cells #[.int .i64 r, .int .i64 c, .slice a n cp] 122 (0, 0))).alloc (.cells #[] 3 (0, 0)) = wa at HX HY HA HR0 HB0 ⊢
    have hsa := HA.out.size
    have hlt : w.heap.size + 1 < wa.heap.size := (HR0.out.lt _ rfl).2
    refine (HM.out _ (HX.out.le hsa)).mono ?_
    rintro e w1 ⟨rfl, hb⟩
    have HB1 := Lib.hid hb
    have hs1 := hb.size
    obtain ⟨⟨d0, d1, d2⟩, -⟩ := cells3 ((hb.block w.heap.size (by omega)).trans HB0.out)
    clear hb
    go_wp2_with fail
    go_ret2
    exact ⟨_, rfl, (HR0.out.below HB1.out).le (by omega), HA.out.trans (HB1.out.mono hsa)⟩
  | true =>
    rw [hm] at HM
    replace HM := Lib.hid HM
    cases hv : vecOkB ys with
    | false =>
      have ho : mvOk r c xs ys = false := by unfold mvOk; rw [hm, hv]; rfl
      rw [ho]
      rw [hv] at HV
      replace HV := Lib.hid HV
      clear hm hv ho h1 h2
      go_enter Tryz.func94, Tryz.ntmps94
      go_wp2_with fail
      generalize (w.alloc (.cells #[.int .i64 r, .int .i64 c, .slice a n cp] 122 (0, 0))).alloc (.cells #[] 3 (0, 0)) = wa at HX HY HA HR0 HB0 ⊢
      have hsa := HA.out.size
      have hlt : w.heap.size + 1 < wa.heap.size := (HR0.out.lt _ rfl).2
      refine (HM.out _ (HX.out.le hsa)).mono ?_
      rintro e w1 ⟨rfl, hb⟩
      have HB1 := Lib.hid hb
      have hs1 := hb.size
      obtain ⟨⟨d0, d1, d2⟩, -⟩ := cells3 ((hb.block w.heap.size (by omega)).trans HB0.out)
      clear hb
      go_wp2_with fail
      refine (HV.out _ ((HY.out.below HB1.out (by omega)).le (by omega))).mono ?_
      rintro e w' ⟨rfl, rfl⟩
      go_wp2_with fail
      go_ret2
      exact ⟨_, rfl, (HR0.out.below HB1.out).le (by omega), HA.out.trans (HB1.out.mono hsa)⟩
    | true =>
      rw [hv] at HV
      replace HV := Lib.hid HV
      by_cases hn : (n2 : Int) = c
      · have ho : mvOk r c xs ys = true := by unfold mvOk; rw [hm, hv, h2.len, decide_eq_true hn]; rfl
        rw [ho]
        obtain ⟨m, q, rfl, rfl, ⟨m1, m6⟩, ⟨q1, q6⟩, hl, ha⟩ := matOkB_has hm
        rw [h1.len] at hl
        simp only [Int.toNat_natCast, if_true, Bool.true_and]
        have HN := Lib.hid hl
        obtain ⟨F, hF⟩ : ∃ F : Nat → Int, (fun i => dotN (rowOf q xs i) ys) = F := ⟨_, rfl⟩
        obtain ⟨G, hG⟩ : ∃ G : Nat → Bool, (fun i => dotB (rowOf q xs i) ys) = G := ⟨_, rfl⟩
        rw [hF, hG]
        have GF := Lib.hid hF
        have GG := Lib.hid hG
        have hnn : q = n2 := by omega
        subst hnn
        clear hm hv ho h1 h2 hn hl ha hF hG
        go_enter Tryz.func94, Tryz.ntmps94
        go_wp2_with fail
        generalize (w.alloc (.cells #[.int .i64 m, .int .i64 q, .slice a n cp] 122 (0, 0))).alloc (.cells #[] 3 (0, 0)) = wa at HX HY HA HR0 HB0 ⊢
        have hsa := HA.out.size
        have hlt : w.heap.size + 1 < wa.heap.size := (HR0.out.lt _ rfl).2
        refine (HM.out _ (HX.out.le hsa)).mono ?_
        rintro e w1 ⟨rfl, hb⟩
        have HB1 := Lib.hid hb
        have hs1 := hb.size
        obtain ⟨⟨d0, d1, d2⟩, -⟩ := cells3 ((hb.block w.heap.size (by omega)).trans HB0.out)
        clear hb
        go_wp2_with fail
        refine (HV.out _ ((HY.out.below HB1.out (by omega)).le (by omega))).mono ?_
        rintro e w' ⟨rfl, rfl⟩
        go_wp2_with fail
        clear d0 d1 d2
        go_loopw [6, 7, 8] (fun v o i wr => ∃ j : Nat, j ≤ m ∧ i = .int .i64 j ∧ o = .bool (anyK G j) ∧ Row (w.heap.size + 1) wr v (mapK F j) ∧ Below (w.heap.size + 1) wa wr) (fun _ _ i _ => m - (intOf i).toNat)
        case atStart => exact ⟨0, Nat.zero_le _, rfl, rfl, HR0.out.below HB1.out, HB1.out.mono (by omega)⟩
        case round =>
          obtain ⟨j, hj, rfl, rfl, hrow, hb⟩ := hrel
          have hl := mapK_length F j
          have hs := hb.size
          obtain ⟨⟨d0, d1, d2⟩, -⟩ := cells3 ((hb.block w.heap.size (by omega)).trans HB0.out)
          have HR := Lib.hid hrow
          have HB := Lib.hid hb
          clear hrow hb
          by_cases hlj : j < m
          · obtain ⟨fl, hfl⟩ : ∃ fl, anyK G j = fl := ⟨_, rfl⟩
            obtain ⟨X, hX⟩ : ∃ X, F j = X := ⟨_, rfl⟩
            obtain ⟨go, hgo⟩ : ∃ go, G j = go := ⟨_, rfl⟩
            have e1 : anyK G (j + 1) = (fl || go) := by rw [anyK, hfl, hgo]
            have e2 : mapK F (j + 1) = mapK F j ++ [X] := by rw [mapK, hX]
            rw [hfl]
            have E1 := Lib.hid e1
            have E2 := Lib.hid e2
            have HFX : Hid (dotN (rowOf q xs j) ys = X) := Lib.hid (by rw [← hX, ← GF.out])
            have HGO : Hid (dotB (rowOf q xs j) ys = go) := Lib.hid (by rw [← hgo, ← GG.out])
            clear hfl hX hgo e1 e2
            go_wp2_with fail
            refine (l4Row_any _ m m q j a n cp xs ((HX.out.below HB.out (by omega)).le (by omega)) hcp hcap HN.out hlj m6 q1 q6).mono ?_
            rintro e w2 ⟨a', cp', rfl, hi2, hb2⟩
            have hs2 := hb2.size
            have hD := specVecDot_any w2 a' q cp' (rowOf q xs j) a2 q c2 ys (hi2.le hs2) ((((HY.out.below HB.out (by omega)).le (by omega : w.heap.size ≤ wr.heap.size)).below hb2 (Nat.le_refl _)).le hs2)
            rw [HFX.out, HGO.out] at hD
            have HD := Lib.hid hD
            have HB2 := Lib.hid hb2
            clear hD hb2 hi2 d0 d1 d2
            go_wp2_with fail
            refine HD.out.mono ?_
            rintro e w3 ⟨rfl, hb3⟩
            have hs3 := hb3.size
            have hr3 := (HR.out.below HB2.out).below hb3
            have hb13 := HB.out.trans ((HB2.out.mono (by omega)).trans (hb3.mono (by omega)))
            have HB3 := Lib.hid hb13
            have HR3 := Lib.hid hr3
            clear hb3 hb13 hr3
            obtain ⟨zs, hzs⟩ : ∃ zs, mapK F j = zs := ⟨_, rfl⟩
            rw [hzs] at HR3 E2 hl
            have hown : w3.ownsRow (w.heap.size + 1) 3 1 _ _ (icells _) := HR3.out
            have hsz : w.heap.size + 1 ≤ w3.heap.size := by omega
            clear hzs
            cases fl
            all_goals
              go_wp2_with (at_builtin; refine wpList_append_own _ rfl _ _ 34 rfl (w.heap.size + 1) 3 i0 (.int .i64 0) 1 8 Tryz.underlying34 hi hz0 hz1 hz2 rfl (by decide) _ _ _ rfl (hown.alloc _) ⟨w3.heap.size, 0, none⟩ 1 1 (icells [X]) rfl rfl (cell_num_put _ _ _) (icells_one _) (by unfold maxLen; omega) (by omega) (by simp; omega) ?_; intro v' w4 hown' hgrow _)
              have hput := Row.put HR3.out hsz _ hown' hgrow
              clear hown' hgrow hown
              go_wp2_with fail
              go_roundw
              case rel => exact ⟨j + 1, by omega, by go_num, by rw [E1.out]; rfl, by rw [E2.out]; exact hput.1, HB3.out.trans hput.2⟩
              case measure => simp [intOf]; omega
          · obtain rfl : j = m := by omega
            go_wp2_with fail
            go_ret2
            exact ⟨_, rfl, HR.out.le (by omega), HA.out.trans (HB.out.mono (by omega))⟩
      · have ho : mvOk r c xs ys = false := by unfold mvOk; rw [hm, hv, h2.len, decide_eq_false hn]; rfl
        rw [ho]
        have hne : ((n2 : Int) == c) = false := by simpa using hn
        clear hm hv ho h1 h2 hn
        go_enter Tryz.func94, Tryz.ntmps94
        go_wp2_with fail
        generalize (w.alloc (.cells #[.int .i64 r, .int .i64 c, .slice a n cp] 122 (0, 0))).alloc (.cells #[] 3 (0, 0)) = wa at HX HY HA HR0 HB0 ⊢
        have hsa := HA.out.size
        have hlt : w.heap.size + 1 < wa.heap.size := (HR0.out.lt _ rfl).2
        refine (HM.out _ (HX.out.le hsa)).mono ?_
        rintro e w1 ⟨rfl, hb⟩
        have HB1 := Lib.hid hb
        have hs1 := hb.size
        obtain ⟨⟨d0, d1, d2⟩, -⟩ := cells3 ((hb.block w.heap.size (by omega)).trans HB0.out)
        clear hb
        go_wp2_with fail
        refine (HV.out _ ((HY.out.below HB1.out (by omega)).le (by omega))).mono ?_
        rintro e w' ⟨rfl, rfl⟩
        go_wp2_with fail
        go_ret2
        exact ⟨_, rfl, (HR0.out.below HB1.out).le (by omega), HA.out.trans (HB1.out.mono hsa)⟩

set_option maxRecDepth 100000 in
set_option maxHeartbeats 1600000 in
theorem specMatBack_any (w : World) (r c : Int) (a : Option Addr) (n cp : Nat) (xs : List Int) (a2 : Option Addr) (n2 c2 : Nat) (ys : List Int) (h1 : IntsIn w.heap.size w a n xs) (hcp : n ≤ cp) (hcap : cp ≤ 9223372036854775807) (h2 : IntsIn w.heap.size w a2 n2 ys) :
    Calls Tryz.prog 104 #[.agg #[.int .i64 r, .int .i64 c, .slice a n cp], .slice a2 n2 c2] w (RowB w (mbN r c xs ys) (mbB r c xs ys)) := by
  obtain ⟨i0, hi, hz0, hz1, hz2⟩ := info_parts Tryz.infoI64
  have hroom := h1.room
  have hal : Below w.heap.size w ((w.alloc (.cells #[.int .i64 r, .int .i64 c, .slice a n cp] 122 (0, 0))).alloc (.cells #[] 3 (0, 0))) := ((Below.refl _ _).alloc (Nat.le_refl _) _).alloc (by simp) _
  have hrow := Row.empty (w.alloc (.cells #[.int .i64 r, .int .i64 c, .slice a n cp] 122 (0, 0))) _ rfl
  have hbx : ((w.alloc (.cells #[.int .i64 r, .int .i64 c, .slice a n cp] 122 (0, 0))).alloc (.cells #[] 3 (0, 0))).heap[w.heap.size]? = some (.cells #[.int .i64 r, .int .i64 c, .slice a n cp] 122 (0, 0)) := by
    rw [Below.heap_alloc _ _ _ (by simp)]
    exact heap_alloc_new w _
  have hsz : (w.alloc (.cells #[.int .i64 r, .int .i64 c, .slice a n cp] 122 (0, 0))).heap.size = w.heap.size + 1 := by simp
  rw [hsz] at hrow
  have LX := Lib.hid h1.len
  have LY := Lib.hid h2.len
  have HX := Lib.hid (h1.below hal (Nat.le_refl _))
  have HY := Lib.hid (h2.below hal (Nat.le_refl _))
  have HA := Lib.hid hal
  have HR0 := Lib.hid hrow
  have HB0 := Lib.hid hbx
  clear hal hrow hbx hsz
  have HM := fun (w : World) (h : IntsIn w.heap.size w a n xs) => specMatOk_any w r c a n cp xs h
  have HV := fun (w : World) (h : IntsIn w.heap.size w a2 n2 ys) => specVecOk_any w a2 n2 c2 ys h
  unfold mbN mbB
  cases hm : matOkB r c xs with
  | false =>
    have ho : mbOk r c xs ys = false := by unfold mbOk; rw [hm]; rfl
    rw [ho]
    rw [hm] at HM
    replace HM := Lib.hid HM
    clear hm ho HV h1 h2
    go_enter Tryz.func104, Tryz.ntmps104
    go_wp2_with fail
    generalize (w.alloc (.cells #[.int .i64 r, .int .i64 c, .slice a n cp] 122 (0, 0))).alloc (.cells #[] 3 (0, 0)) = wa at HX HY HA HR0 HB0 ⊢
    have hsa := HA.out.size
    have hlt : w.heap.size + 1 < wa.heap.size := (HR0.out.lt _ rfl).2
    refine (HM.out _ (HX.out.le hsa)).mono ?_
    rintro e w1 ⟨rfl, hb⟩
    have HB1 := Lib.hid hb
    have hs1 := hb.size
    obtain ⟨⟨d0, d1, d2⟩, -⟩ := cells3 ((hb.block w.heap.size (by omega)).trans HB0.out)
    clear hb
    go_wp2_with fail
    go_ret2
    exact ⟨_, rfl, (HR0.out.below HB1.out).le (by omega), HA.out.trans (HB1.out.mono hsa)⟩
  | true =>
    rw [hm] at HM
    replace HM := Lib.hid HM
    cases hv : vecOkB ys with
    | false =>
      have ho : mbOk r c xs ys = false := by unfold mbOk; rw [hm, hv]; rfl
      rw [ho]
      rw [hv] at HV
      replace HV := Lib.hid HV
      clear hm hv ho h1 h2
      go_enter Tryz.func104, Tryz.ntmps104
      go_wp2_with fail
      generalize (w.alloc (.cells #[.int .i64 r, .int .i64 c, .slice a n cp] 122 (0, 0))).alloc (.cells #[] 3 (0, 0)) = wa at HX HY HA HR0 HB0 ⊢
      have hsa := HA.out.size
      have hlt : w.heap.size + 1 < wa.heap.size := (HR0.out.lt _ rfl).2
      refine (HM.out _ (HX.out.le hsa)).mono ?_
      rintro e w1 ⟨rfl, hb⟩
      have HB1 := Lib.hid hb
      have hs1 := hb.size
      obtain ⟨⟨d0, d1, d2⟩, -⟩ := cells3 ((hb.block w.heap.size (by omega)).trans HB0.out)
      clear hb
      go_wp2_with fail
      refine (HV.out _ ((HY.out.below HB1.out (by omega)).le (by omega))).mono ?_
      rintro e w' ⟨rfl, rfl⟩
      go_wp2_with fail
      go_ret2
      exact ⟨_, rfl, (HR0.out.below HB1.out).le (by omega), HA.out.trans (HB1.out.mono hsa)⟩
    | true =>
      rw [hv] at HV
      replace HV := Lib.hid HV
      by_cases hn : (n2 : Int) = r
      · have ho : mbOk r c xs ys = true := by unfold mbOk; rw [hm, hv, h2.len, decide_eq_true hn]; rfl
        rw [ho]
        obtain ⟨m, q, rfl, rfl, ⟨m1, m6⟩, ⟨q1, q6⟩, hl, ha⟩ := matOkB_has hm
        rw [h1.len] at hl
        simp only [Int.toNat_natCast, if_true, Bool.true_and]
        have HN := Lib.hid hl
        obtain ⟨F, hF⟩ : ∃ F : Nat → Int, (fun k => dotN (colOf m q xs k) ys) = F := ⟨_, rfl⟩
        obtain ⟨G, hG⟩ : ∃ G : Nat → Bool, (fun k => dotB (colOf m q xs k) ys) = G := ⟨_, rfl⟩
        rw [hF, hG]
        have GF := Lib.hid hF
        have GG := Lib.hid hG
        have hnn : m = n2 := by omega
        subst hnn
        clear hm hv ho h1 h2 hn hl ha hF hG
        go_enter Tryz.func104, Tryz.ntmps104
        go_wp2_with fail
        generalize (w.alloc (.cells #[.int .i64 m, .int .i64 q, .slice a n cp] 122 (0, 0))).alloc (.cells #[] 3 (0, 0)) = wa at HX HY HA HR0 HB0 ⊢
        have hsa := HA.out.size
        have hlt : w.heap.size + 1 < wa.heap.size := (HR0.out.lt _ rfl).2
        refine (HM.out _ (HX.out.le hsa)).mono ?_
        rintro e w1 ⟨rfl, hb⟩
        have HB1 := Lib.hid hb
        have hs1 := hb.size
        obtain ⟨⟨d0, d1, d2⟩, -⟩ := cells3 ((hb.block w.heap.size (by omega)).trans HB0.out)
        clear hb
        go_wp2_with fail
        refine (HV.out _ ((HY.out.below HB1.out (by omega)).le (by omega))).mono ?_
        rintro e w' ⟨rfl, rfl⟩
        go_wp2_with fail
        clear d0 d1 d2
        go_loopw [6, 7, 8] (fun v o i wr => ∃ j : Nat, j ≤ q ∧ i = .int .i64 j ∧ o = .bool (anyK G j) ∧ Row (w.heap.size + 1) wr v (mapK F j) ∧ Below (w.heap.size + 1) wa wr) (fun _ _ i _ => q - (intOf i).toNat)
        case atStart => exact ⟨0, Nat.zero_le _, rfl, rfl, HR0.out.below HB1.out, HB1.out.mono (by omega)⟩
        case round =>
          obtain ⟨j, hj, rfl, rfl, hrow, hb⟩ := hrel
          have hl := mapK_length F j
          have hs := hb.size
          obtain ⟨⟨d0, d1, d2⟩, -⟩ := cells3 ((hb.block w.heap.size (by omega)).trans HB0.out)
          have HR := Lib.hid hrow
          have HB := Lib.hid hb
          clear hrow hb
          by_cases hlj : j < q
          · obtain ⟨fl, hfl⟩ : ∃ fl, anyK G j = fl := ⟨_, rfl⟩
            obtain ⟨X, hX⟩ : ∃ X, F j = X := ⟨_, rfl⟩
            obtain ⟨go, hgo⟩ : ∃ go, G j = go := ⟨_, rfl⟩
            have e1 : anyK G (j + 1) = (fl || go) := by rw [anyK, hfl, hgo]
            have e2 : mapK F (j + 1) = mapK F j ++ [X] := by rw [mapK, hX]
            rw [hfl]
            have E1 := Lib.hid e1
            have E2 := Lib.hid e2
            have HFX : Hid (dotN (colOf m q xs j) ys = X) := Lib.hid (by rw [← hX, ← GF.out])
            have HGO : Hid (dotB (colOf m q xs j) ys = go) := Lib.hid (by rw [← hgo, ← GG.out])
            clear hfl hX hgo e1 e2
            go_wp2_with fail
            refine (l4Col_any _ m q j a n cp xs ((HX.out.below HB.out (by omega)).le (by omega)) HN.out hlj m6 q6).mono ?_
            rintro e w2 ⟨v2, rfl, hr2, hb2⟩
            have hs2 := hb2.size
            obtain ⟨a', cp', rfl, hi2⟩ := hr2.form' (n := m) (Lib.hid (colOf_length _ _ _ _)) (by omega)
            have hD := specVecDot_any w2 a' m cp' (colOf m q xs j) a2 m c2 ys hi2 ((((HY.out.below HB.out (by omega)).le (by omega : w.heap.size ≤ wr.heap.size)).below hb2 (Nat.le_refl _)).le hs2)
            rw [HFX.out, HGO.out] at hD
            have HD := Lib.hid hD
            have HB2 := Lib.hid hb2
            clear hD hb2 hi2 hr2 d0 d1 d2
            go_wp2_with fail
            refine HD.out.mono ?_
            rintro e w3 ⟨rfl, hb3⟩
            have hs3 := hb3.size
            have hr3 := (HR.out.below HB2.out).below hb3
            have hb13 := HB.out.trans ((HB2.out.mono (by omega)).trans (hb3.mono (by omega)))
            have HB3 := Lib.hid hb13
            have HR3 := Lib.hid hr3
            clear hb3 hb13 hr3
            obtain ⟨zs, hzs⟩ : ∃ zs, mapK F j = zs := ⟨_, rfl⟩
            rw [hzs] at HR3 E2 hl
            have hown : w3.ownsRow (w.heap.size + 1) 3 1 _ _ (icells _) := HR3.out
            have hsz : w.heap.size + 1 ≤ w3.heap.size := by omega
            clear hzs
            cases fl
            all_goals
              go_wp2_with (at_builtin; refine wpList_append_own _ rfl _ _ 34 rfl (w.heap.size + 1) 3 i0 (.int .i64 0) 1 8 Tryz.underlying34 hi hz0 hz1 hz2 rfl (by decide) _ _ _ rfl (hown.alloc _) ⟨w3.heap.size, 0, none⟩ 1 1 (icells [X]) rfl rfl (cell_num_put _ _ _) (icells_one _) (by unfold maxLen; omega) (by omega) (by simp; omega) ?_; intro v' w4 hown' hgrow _)
              have hput := Row.put HR3.out hsz _ hown' hgrow
              clear hown' hgrow hown
              go_wp2_with fail
              go_roundw
              case rel => exact ⟨j + 1, by omega, by go_num, by rw [E1.out]; rfl, by rw [E2.out]; exact hput.1, HB3.out.trans hput.2⟩
              case measure => simp [intOf]; omega
          · obtain rfl : j = q := by omega
            go_wp2_with fail
            go_ret2
            exact ⟨_, rfl, HR.out.le (by omega), HA.out.trans (HB.out.mono (by omega))⟩
      · have ho : mbOk r c xs ys = false := by unfold mbOk; rw [hm, hv, h2.len, decide_eq_false hn]; rfl
        rw [ho]
        have hne : ((n2 : Int) == r) = false := by simpa using hn
        clear hm hv ho h1 h2 hn
        go_enter Tryz.func104, Tryz.ntmps104
        go_wp2_with fail
        generalize (w.alloc (.cells #[.int .i64 r, .int .i64 c, .slice a n cp] 122 (0, 0))).alloc (.cells #[] 3 (0, 0)) = wa at HX HY HA HR0 HB0 ⊢
        have hsa := HA.out.size
        have hlt : w.heap.size + 1 < wa.heap.size := (HR0.out.lt _ rfl).2
        refine (HM.out _ (HX.out.le hsa)).mono ?_
        rintro e w1 ⟨rfl, hb⟩
        have HB1 := Lib.hid hb
        have hs1 := hb.size
        obtain ⟨⟨d0, d1, d2⟩, -⟩ := cells3 ((hb.block w.heap.size (by omega)).trans HB0.out)
        clear hb
        go_wp2_with fail
        refine (HV.out _ ((HY.out.below HB1.out (by omega)).le (by omega))).mono ?_
        rintro e w' ⟨rfl, rfl⟩
        go_wp2_with fail
        go_ret2
        exact ⟨_, rfl, (HR0.out.below HB1.out).le (by omega), HA.out.trans (HB1.out.mono hsa)⟩

end Go.Proofs.YtkmcfbopilieeaaGreatDoor
