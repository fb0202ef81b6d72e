import Derived.Test.YtpnifgpmleaohaaGreatDoorJoin19
import Derived.Test.YtpnifgpmleaohaaGreatDoorJoin20
import Derived.Deep.QuietTactic
import Derived.BigQuiet
import Derived.Test.YtpnifgpmleaohaaGreatDoorJoin14
import Derived.Test.YtpnifgpmleaohaaGreatDoorJoin15
import Derived.Test.YtpnifgpmleaohaaGreatDoorJoin18
/-! YtpnifgpmleaohaaGreatDoorZOpK -/
section

namespace Go.Proofs.YtpnifgpmleaohaaGreatDoor
open Go.RowKit
set_option linter.unusedVariables false

theorem clone_notnil (b p n c : Nat) (w : World) : (binOp .eql 28 (.slice (some ⟨b, p, none⟩) n c) (.slice none 0 0)).run Tryz.prog w = .ok (.bool false) w := by kernel_rfl
set_option maxRecDepth 100000 in
/-- A copy of numbers. -/
theorem implClone_any (w : World) (a : Option Addr) (n c : Nat) (ds : List Int) (h : IntsIn w.heap.size w a n ds) (hn : 1 ≤ n) :
    Calls Tryz.prog 76 #[.slice a n c] w (RowV w ds) := by
  obtain ⟨i0, hi0, hz0, hz1, hz2⟩ := info_parts Tryz.infoI64
  have hl := h.len
  have hroom := h.room
  obtain ⟨b, p, rfl, hbB, -⟩ := h.cells 0 (by omega)
  have HY := Lib.hid h
  have HL := Lib.hid hl
  have hnn := clone_notnil b p n c
  clear h hl
  go_enter Tryz.func76, Tryz.ntmps76
  go_wp2_with (at_builtin; refine wpList_append_own _ rfl _ _ 28 rfl w.heap.size 3 i0 (.int .i64 0) 1 8 Tryz.underlying28 hi0 hz0 hz1 hz2 rfl (by decide) _ _ _ rfl (owns_empty w) ⟨b, p, none⟩ n c (icells ds) rfl (by rw [icells_length, HL.out, Nat.mul_one]) (ints_news (HY.out.below ((Below.refl w.heap.size w).alloc (Nat.le_refl _) _) (by omega))) (icells_one _) (by unfold maxLen; omega) (by omega) (by simp) ?_; intro v2 w2 hown hgrow _; have hr := row_first hown; have hb := ((Below.refl w.heap.size w).alloc (Nat.le_refl _) (.cells #[] 3 (0, 0))).grown hgrow (by simp) (fun k e => by cases e; exact Nat.le_refl _); have HR := Lib.hid hr; have HB := Lib.hid hb; clear hown hgrow hr hb)
  go_ret
  exact ⟨v2, rfl, HR.out, HB.out⟩
set_option maxRecDepth 100000 in
theorem implBackDense (w : World) (k i o : Int) (a : Option Addr) (n cp : Nat) (ps : List Int) (a2 : Option Addr) (n2 c4 : Nat) (xs : List Int) (a3 : Option Addr) (n3 c6 : Nat) (ds : List Int) (h1 : IntsIn w.heap.size w a n ps) (hcp : n ≤ cp) (hcap : cp ≤ 9223372036854775807) (h2 : IntsIn w.heap.size w a2 n2 xs) (h3 : IntsIn w.heap.size w a3 n3 ds) (hg : LaidE w) :
    Calls Tryz.prog 280 #[.agg #[.int .i64 o, .int .i64 i, .slice a n cp], .slice a2 n2 c4, .slice a3 n3 c6] w (RowsB w (mbN o i ps ds) (outN ds xs) (mbB o i ps ds || outB ds xs)) := by
  have hlt := hg.lt
  have hal : Below w.heap.size w (w.alloc (.cells #[.int .i64 o, .int .i64 i, .slice a n cp] 255 (0, 0))) := (Below.refl _ _).alloc (Nat.le_refl _) _
  have hs0 : w.heap.size < (w.alloc (.cells #[.int .i64 o, .int .i64 i, .slice a n cp] 255 (0, 0))).heap.size := by simp
  have H2 := Lib.hid (h2.below hal (Nat.le_refl _))
  have H3 := Lib.hid (h3.below hal (Nat.le_refl _))
  have HG := Lib.hid (hg.below hlt hal)
  have HC := Lib.hid (implMatBack_any _ o i a n cp ps a3 n3 c6 ds ((h1.below hal (Nat.le_refl _)).le hal.size) hcp hcap ((h3.below hal (Nat.le_refl _)).le hal.size) (hg.below hlt hal))
  have HA := Lib.hid hal
  obtain ⟨Z, hZ⟩ : ∃ Z, mbN o i ps ds = Z := ⟨_, rfl⟩
  obtain ⟨q, hq⟩ : ∃ q, mbB o i ps ds = q := ⟨_, rfl⟩
  obtain ⟨gs, hgs⟩ : ∃ gs, outN ds xs = gs := ⟨_, rfl⟩
  obtain ⟨r, hr⟩ : ∃ r, outB ds xs = r := ⟨_, rfl⟩
  have HOU := fun (w : World) (h1 : IntsIn w.heap.size w a3 n3 ds) (h2 : IntsIn w.heap.size w a2 n2 xs) (hg : LaidE w) => implOuter_any w a3 n3 c6 ds a2 n2 c4 xs h1 h2 hg
  rw [hZ, hq] at HC ⊢
  rw [hgs, hr] at HOU ⊢
  replace HOU := Lib.hid HOU
  have hlt' := (hg.below hlt hal).lt
  clear h1 h2 h3 hg hal hZ hq hgs hr
  go_enter Tryz.func280, Tryz.ntmps280
  go_wp2_with fail
  generalize w.alloc (.cells #[.int .i64 o, .int .i64 i, .slice a n cp] 255 (0, 0)) = wa at HC HA HG H2 H3 hlt' hs0 ⊢
  refine HC.out.mono ?_
  rintro e w1 ⟨v, rfl, hr, hb⟩
  have hs1 := hb.size
  have HB := Lib.hid hb
  have HR := Lib.hid hr
  have HD := Lib.hid (HOU.out w1 ((H3.out.below hb (by omega)).le (by omega)) ((H2.out.below hb (by omega)).le (by omega)) (HG.out.below hlt' hb))
  clear hr hb HC HOU
  go_wp2_with fail
  refine HD.out.mono ?_
  rintro e w2 ⟨u, rfl, hr, hb⟩
  have hs2 := hb.size
  obtain ⟨a7, c7, rfl, -⟩ := hr.form
  obtain ⟨gn, hgn⟩ : ∃ gn, gs.length = gn := ⟨_, rfl⟩
  rw [hgn] at hr ⊢
  have HU := Lib.hid hr
  have HV := Lib.hid (HR.out.below hb)
  have HAP := Lib.hid (apart_before HR.out hr (Nat.le_refl _))
  have HB2 := Lib.hid (HB.out.trans (hb.mono hs1))
  clear hr hb HD
  cases q
  all_goals
    go_wp2_with fail
    have hk := heap_alloc_new w2 (.cells #[.int .i64 (outR ds xs), .int .i64 (outC ds xs), .slice a7 gn c7] 245 (0, 0))
    have hb3 := (Below.refl w2.heap.size w2).alloc (Nat.le_refl _) (.cells #[.int .i64 (outR ds xs), .int .i64 (outC ds xs), .slice a7 gn c7] 245 (0, 0))
    generalize w2.alloc (.cells #[.int .i64 (outR ds xs), .int .i64 (outC ds xs), .slice a7 gn c7] 245 (0, 0)) = w3 at hk hb3 ⊢
    have c2 : w3.cell? ⟨w2.heap.size, 2, none⟩ = some (.slice a7 gn c7) := by rw [cell_of_row _ _ _ _ _ _ hk]; rfl
    have HB3 := Lib.hid hb3
    clear hk hb3
    go_quiet (fail)
    have HB4 : Hid (Below w2.heap.size w2 (w3.drewN nq)) := Lib.hid (HB3.out.trans ⟨rfl, rfl, rfl, Nat.le_refl _, fun _ _ => rfl⟩)
    generalize w3.drewN nq = w4 at HB4 ⊢
    clear c2
    go_wp2_with fail
    go_ret3
    exact ⟨_, _, rfl, (HV.out.below HB4.out).le (by omega), (HU.out.below HB4.out).le (by omega), HAP.out, HA.out.trans ((HB2.out.trans (HB4.out.mono (by omega))).mono HA.out.size)⟩
set_option maxRecDepth 100000 in
theorem implBackBias (w : World) (k i o : Int) (a : Option Addr) (n cp : Nat) (ps : List Int) (a2 : Option Addr) (n2 c4 : Nat) (xs : List Int) (a3 : Option Addr) (n3 c6 : Nat) (ds : List Int) (h1 : IntsIn w.heap.size w a n ps) (hcp : n ≤ cp) (hcap : cp ≤ 9223372036854775807) (h2 : IntsIn w.heap.size w a2 n2 xs) (h3 : IntsIn w.heap.size w a3 n3 ds) (hg : LaidE w) (hn3 : 1 ≤ n3) :
    Calls Tryz.prog 291 #[.agg #[.slice a n cp], .slice a2 n2 c4, .slice a3 n3 c6] w (RowsB w ds ds false) := by
  have hal : Below w.heap.size w (w.alloc (.cells #[.slice a n cp] 257 (0, 0))) := (Below.refl _ _).alloc (Nat.le_refl _) _
  have H3 := Lib.hid (h3.below hal (Nat.le_refl _))
  have HA := Lib.hid hal
  have HC := Lib.hid fun (w : World) (h : IntsIn w.heap.size w a3 n3 ds) => implClone_any w a3 n3 c6 ds h hn3
  clear h1 h2 h3 hg hal
  go_enter Tryz.func291, Tryz.ntmps291
  go_wp2_with fail
  generalize w.alloc (.cells #[.slice a n cp] 257 (0, 0)) = wa at HA H3 ⊢
  have hs0 := HA.out.size
  refine (HC.out wa (H3.out.le (by omega))).mono ?_
  rintro e w1 ⟨v, rfl, hr, hb⟩
  have hs1 := hb.size
  have HB := Lib.hid hb
  have HR := Lib.hid hr
  have HD := Lib.hid (HC.out w1 ((H3.out.below hb (by omega)).le (by omega)))
  clear hr hb
  go_wp2_with fail
  refine HD.out.mono ?_
  rintro e w2 ⟨u, rfl, hr, hb⟩
  have hs2 := hb.size
  have HU := Lib.hid hr
  have HV := Lib.hid (HR.out.below hb)
  have HAP := Lib.hid (apart_before HR.out hr (Nat.le_refl _))
  have HB2 := Lib.hid (HB.out.trans (hb.mono hs1))
  clear hr hb HD
  go_wp2_with fail
  go_ret3
  exact ⟨_, _, rfl, HV.out.le (by omega), HU.out.le (by omega), HAP.out, HA.out.trans (HB2.out.mono HA.out.size)⟩
set_option maxRecDepth 100000 in
theorem implBackRelu (w : World) (k i o : Int) (a : Option Addr) (n cp : Nat) (ps : List Int) (a2 : Option Addr) (n2 c4 : Nat) (xs : List Int) (a3 : Option Addr) (n3 c6 : Nat) (ds : List Int) (h1 : IntsIn w.heap.size w a n ps) (hcp : n ≤ cp) (hcap : cp ≤ 9223372036854775807) (h2 : IntsIn w.heap.size w a2 n2 xs) (h3 : IntsIn w.heap.size w a3 n3 ds) (hg : LaidE w) (z : Array Value) (hz : z = #[]) :
    Calls Tryz.prog 294 #[.agg z, .slice a2 n2 c4, .slice a3 n3 c6] w (RowsB w (rowP maskN xs ds) [] false) := by
  subst hz
  have hal : Below w.heap.size w (w.alloc (.cells #[] 259 (0, 0))) := (Below.refl _ _).alloc (Nat.le_refl _) _
  have HC := Lib.hid (implVecMask_any _ a2 n2 c4 xs a3 n3 c6 ds ((h2.below hal (Nat.le_refl _)).le hal.size) ((h3.below hal (Nat.le_refl _)).le hal.size))
  have HA := Lib.hid hal
  clear h1 h2 h3 hg hal
  go_enter Tryz.func294, Tryz.ntmps294
  go_wp2_with fail
  refine HC.out.mono ?_
  rintro e w1 ⟨v, rfl, hr, hb⟩
  go_wp2_with fail
  go_ret3
  exact ⟨_, _, rfl, hr.le HA.out.size, Row.nil _ _, (fun k _ => by simp [Value.ownBlock]), HA.out.trans (hb.mono HA.out.size)⟩
set_option maxRecDepth 100000 in
theorem implBackScale (w : World) (k i o : Int) (a : Option Addr) (n cp : Nat) (ps : List Int) (a2 : Option Addr) (n2 c4 : Nat) (xs : List Int) (a3 : Option Addr) (n3 c6 : Nat) (ds : List Int) (h1 : IntsIn w.heap.size w a n ps) (hcp : n ≤ cp) (hcap : cp ≤ 9223372036854775807) (h2 : IntsIn w.heap.size w a2 n2 xs) (h3 : IntsIn w.heap.size w a3 n3 ds) (hg : LaidE w) (hn : 1 ≤ n) :
    Calls Tryz.prog 301 #[.agg #[.slice a n cp], .slice a2 n2 c4, .slice a3 n3 c6] w (RowsB w (scaleN (ps.getD 0 0) ds) [dotN ds xs] (scaleB (ps.getD 0 0) ds || dotB ds xs)) := by
  have hlt := hg.lt
  have hal : Below w.heap.size w (w.alloc (.cells #[.slice a n cp] 260 (0, 0))) := (Below.refl _ _).alloc (Nat.le_refl _) _
  obtain ⟨P, hP⟩ : ∃ P, ps.getD 0 0 = P := ⟨_, rfl⟩
  obtain ⟨b, p, rfl, hbB, hc⟩ := h1.cells 0 (by omega)
  rw [hP] at hc ⊢
  have hc' := (hal.cell (p := ⟨b, p + 0, none⟩) hbB).trans hc
  simp only [Nat.add_zero] at hc'
  have H2 := Lib.hid (h2.below hal (Nat.le_refl _))
  have H3 := Lib.hid (h3.below hal (Nat.le_refl _))
  have HG := Lib.hid (hg.below hlt hal)
  have hlt' := (hg.below hlt hal).lt
  have HC := Lib.hid (implVecScale_any P _ a3 n3 c6 ds ((h3.below hal (Nat.le_refl _)).le hal.size) (hg.below hlt hal))
  have HDD := Lib.hid fun (w : World) (h : IntsIn w.heap.size w a3 n3 ds) (h' : IntsIn w.heap.size w a2 n2 xs) (hg : LaidE w) => implVecDot_any w a3 n3 c6 ds a2 n2 c4 xs h h' hg
  have HA := Lib.hid hal
  have hn0 : (0 : Int) < (n : Int) := by omega
  have hn1 : 0 < n := by omega
  obtain ⟨q, hq⟩ : ∃ q, scaleB P ds = q := ⟨_, rfl⟩
  rw [hq] at HC ⊢
  clear h1 h2 h3 hg hal hP hc hq
  go_enter Tryz.func301, Tryz.ntmps301
  go_wp2_with fail
  generalize hwa : w.alloc (.cells #[.slice (some ⟨b, p, none⟩) n cp] 260 (0, 0)) = wa at HC HA HG H2 H3 hlt' hc' ⊢
  have hs0 := HA.out.size
  refine HC.out.mono ?_
  rintro e w1 ⟨v, rfl, hr, hb⟩
  have hs1 := hb.size
  have HB := Lib.hid hb
  have HR := Lib.hid hr
  have HD := Lib.hid (HDD.out w1 ((H3.out.below hb (by omega)).le (by omega)) ((H2.out.below hb (by omega)).le (by omega)) (HG.out.below hlt' hb))
  clear hr hb HC HDD
  go_wp2_with fail
  refine HD.out.mono ?_
  rintro e w2 ⟨rfl, hb⟩
  have hs2 := hb.size
  have HV := Lib.hid (HR.out.below hb)
  have HB2 := Lib.hid (HB.out.trans (hb.mono hs1))
  clear hb HD
  have hr2 := Row.one w2 (dotN ds xs)
  cases q
  all_goals
    go_wp2_with fail
    go_ret3
    exact ⟨_, _, rfl, (HV.out.below ((Below.refl _ _).alloc (Nat.le_refl _) _)).le (by omega), hr2.le (by omega), apart_before HV.out hr2 (Nat.le_refl _), (HA.out.trans (HB2.out.mono HA.out.size)).alloc (by omega) _⟩
set_option maxRecDepth 100000 in
theorem implBackRes (w : World) (k i o : Int) (a : Option Addr) (n cp : Nat) (ps : List Int) (a2 : Option Addr) (n2 c4 : Nat) (xs : List Int) (a3 : Option Addr) (n3 c6 : Nat) (ds : List Int) (h1 : IntsIn w.heap.size w a n ps) (hcp : n ≤ cp) (hcap : cp ≤ 9223372036854775807) (h2 : IntsIn w.heap.size w a2 n2 xs) (h3 : IntsIn w.heap.size w a3 n3 ds) (hg : LaidE w) :
    Calls Tryz.prog 303 #[.agg #[.int .i64 o, .int .i64 i, .slice a n cp], .slice a2 n2 c4, .slice a3 n3 c6] w (RowsB w (rowP addN ds (mbN o i ps ds)) (outN ds xs) (mbB o i ps ds || outB ds xs || flagP addB ds (mbN o i ps ds))) := by
  have hlt := hg.lt
  have hal : Below w.heap.size w (w.alloc (.cells #[.int .i64 o, .int .i64 i, .slice a n cp] 262 (0, 0))) := (Below.refl _ _).alloc (Nat.le_refl _) _
  have h3' := (h3.below hal (Nat.le_refl _)).le hal.size
  have hg' := hg.below hlt hal
  have HC := Lib.hid (implBackDense _ k i o a n cp ps a2 n2 c4 xs a3 n3 c6 ds ((h1.below hal (Nat.le_refl _)).le hal.size) hcp hcap ((h2.below hal (Nat.le_refl _)).le hal.size) h3' hg')
  have HA := Lib.hid hal
  obtain ⟨Z, hZ⟩ : ∃ Z, mbN o i ps ds = Z := ⟨_, rfl⟩
  obtain ⟨q, hq⟩ : ∃ q, (mbB o i ps ds || outB ds xs) = q := ⟨_, rfl⟩
  obtain ⟨gs, hgs⟩ : ∃ gs, outN ds xs = gs := ⟨_, rfl⟩
  have hzl : Z.length ≤ 6 := by rw [← hZ]; exact mbN_length _ _ _ _
  rw [hZ, hq, hgs] at HC ⊢
  have HG := Lib.hid hg'
  have H3 := Lib.hid h3'
  have hlt' := hg'.lt
  clear h1 h2 h3 hg hal hlt h3' hg' hZ hq hgs
  go_enter Tryz.func303, Tryz.ntmps303
  go_wp2_with fail
  generalize w.alloc (.cells #[.int .i64 o, .int .i64 i, .slice a n cp] 262 (0, 0)) = wa at HC HA HG H3 hlt' ⊢
  refine HC.out.mono ?_
  rintro e w1 ⟨v, u, rfl, hr, hu, hap, hb⟩
  obtain ⟨a5, c5, rfl, hi5⟩ := hr.form
  have HD := Lib.hid (implVecAdd_any w1 a3 n3 c6 ds a5 Z.length c5 Z ((H3.out.below hb (Nat.le_refl _)).le hb.size) (hi5 (by omega)) (HG.out.below hlt' hb))
  have HB := Lib.hid hb
  have HU := Lib.hid hu
  clear hr hb hi5 HC hap hu
  go_wp2_with fail
  refine HD.out.mono ?_
  rintro e w2 ⟨t, rfl, hr, hb⟩
  have hs1 := HA.out.size
  have hs2 := HB.out.size
  have HV := Lib.hid (HU.out.below hb)
  have HAP := Lib.hid (apart_after HU.out hr (Nat.le_refl _))
  cases q
  all_goals
    go_wp2_with fail
    go_ret3
    exact ⟨t, u, rfl, hr.le (by omega), HV.out.le (by omega), HAP.out, (HA.out.trans (HB.out.mono hs1)).trans (hb.mono (by omega))⟩
end Go.Proofs.YtpnifgpmleaohaaGreatDoor

end

/-! YtpnifgpmleaohaaGreatDoorZSeqU -/
section

namespace Go.Proofs.YtpnifgpmleaohaaGreatDoor
open Go.RowKit Go.Sort
set_option linter.unusedVariables false

set_option maxRecDepth 100000 in
set_option maxHeartbeats 6400000 in
theorem implInputs_yes (w : World) (a : Option Addr) (n c : Nat) (m : List dOp) (h : ListAt shOp (Under w.heap.size) w a n m) (hc1 : n ≤ c) (hc2 : c ≤ 9223372036854775807) (hb : (Shape.list shOp).bulk m ≤ 1048576) (ax : Option Addr) (nx cx : Nat) (xs : List Int) (hx : IntsIn w.heap.size w ax nx xs) (hg : LaidE w) (hv : vecOkB xs = true) (hi : (nx : Int) = inOfN m) :
    Calls Tryz.prog 74 #[.agg #[.slice a n c], .slice ax nx cx] w fun e w' => ∃ v, e = .returned (.tuple #[v, .bool (inKB m xs n)]) ∧ ListL ownRow 56 w.heap.size w'.heap.size w' v (listK (inK m xs) (n + 1)) ∧ Below w.heap.size w w' := by
  obtain ⟨j0, hj, hy0, hy1, hy2⟩ := info_parts infoRow1
  have hlen := h.1
  have hbm := hb
  rw [bulk_list _ h] at hb
  have hn1 : n ≤ 1048576 := by omega
  have hlx := hx.len
  have hx1 := (vecOkB_has hv).1
  have hx6 := (vecOkB_has hv).2.1
  rw [hlx] at hx1 hx6
  obtain ⟨b, p, rfl, hbB, -⟩ := hx.cells 0 (by omega)
  have hsm : ∀ k, (inK m xs k).length ≤ 6 := fun k => by
    cases k with
    | zero => show xs.length ≤ 6; omega
    | succ k => exact fwOp_length _ _
  have hlt := hg.lt
  have hal := (Below.refl w.heap.size w).alloc (Nat.le_refl _) (.cells #[.slice a n c] 50 (0, 0))
  have hA := heap_alloc_new w (.cells #[.slice a n c] 50 (0, 0))
  have hs1 : (w.alloc (.cells #[.slice a n c] 50 (0, 0))).heap.size = w.heap.size + 1 := by simp
  have hmr : ∀ (w1 : World), Below w.heap.size w w1 → shModel.reads (Under w1.heap.size) w1 [.slice a n c] m := fun w1 hb1 => shModel_reads.2 ⟨a, n, c, rfl, hc1, hc2, (h.below hb1 (Nat.le_refl _)).le hb1.size⟩
  have HV := Lib.hid fun (w1 : World) (hb1 : Below w.heap.size w w1) => implVecOk_any w1 (some ⟨b, p, none⟩) nx cx xs ((hx.below hb1 (Nat.le_refl _)).le hb1.size)
  have HI := Lib.hid fun (w1 : World) (hb1 : Below w.heap.size w w1) => implInOf_d w1 [.slice a n c] m (hmr w1 hb1) hbm
  have HC := Lib.hid fun (w1 : World) (hb1 : Below w.heap.size w w1) => implClone_any w1 (some ⟨b, p, none⟩) nx cx xs ((hx.below hb1 (Nat.le_refl _)).le hb1.size) hx1
  rw [Hid] at HV HI
  simp only [hv] at HV
  simp only [← hi] at HI
  replace HV := Lib.hid HV
  replace HI := Lib.hid HI
  have HL := Lib.hid h
  have HB := Lib.hid hb
  have HSM := Lib.hid hsm
  have HG := Lib.hid hg
  have HAL := Lib.hid hal
  have HA := Lib.hid hA
  clear h hb hx hsm hbm hmr hg hv hi hal hA
  go_enter Tryz.func74, Tryz.ntmps74
  go_wp2_with fail
  generalize w.alloc (.cells #[.slice a n c] 50 (0, 0)) = wa at HAL HA hs1 ⊢
  refine (HV.out wa HAL.out).mono ?_
  rintro e w1 ⟨rfl, rfl⟩
  have z0 := box1 HA.out
  go_wp2_with fail
  refine (HI.out wa HAL.out).mono ?_
  rintro e w1 ⟨rfl, hb1⟩
  have hs1' := hb1.size
  have HA1 := Lib.hid ((hb1.block w.heap.size (by omega)).trans HA.out)
  have H1 := Lib.hid (HAL.out.trans (hb1.mono (by omega)))
  clear z0 hb1
  have z0 := box1 HA1.out
  go_wp2_with fail
  refine (HC.out w1 H1.out).mono ?_
  rintro e w2 ⟨v2, rfl, hr, hb2⟩
  obtain ⟨a2, c2, rfl, -⟩ := hr.form
  have hs2 := hb2.size
  have HA2 := Lib.hid ((hb2.block w.heap.size (by omega)).trans HA1.out)
  have H2 := Lib.hid (H1.out.trans (hb2.mono (by omega)))
  have hr' := hr.le (show w.heap.size + 1 ≤ w1.heap.size by omega)
  have hone := ListL.one hr' (by omega)
  rw [hlx] at hone hr ⊢
  have hbo : Below w1.heap.size w1 (w2.alloc (.cells #[.slice a2 nx c2] 56 (0, 0))) := hb2.alloc hb2.size _
  have HONE := Lib.hid hone
  have HBO := Lib.hid hbo
  clear hr hr' hone hbo hb2 z0
  generalize hw3 : w2.alloc (.cells #[.slice a2 nx c2] 56 (0, 0)) = w3 at HONE HBO
  have hs3 : w2.heap.size < w3.heap.size := by rw [← hw3]; simp
  have z0 := box1 ((HBO.out.block w.heap.size (by omega)).trans HA1.out)
  have H3 := Lib.hid (H1.out.trans (HBO.out.mono (by omega)))
  go_upto_region 4 with fail
  go_wp2_with fail
  clear z0 hw3
  go_loopw [6, 7, 29] (fun v o i wr => ∃ (k : Nat) (q : Bool), k ≤ n ∧ i = .int .i64 k ∧ o = .bool q ∧ Hid (q = inKB m xs k) ∧ ListL ownRow 56 (w.heap.size + 1) wr.heap.size wr v (listK (inK m xs) (k + 1)) ∧ Below w.heap.size w wr) (fun _ _ i _ => n - (intOf i).toNat)
  case atStart => exact ⟨0, false, Nat.zero_le _, rfl, rfl, Lib.hid rfl, HONE.out, H3.out⟩
  case round =>
    obtain ⟨k, q, hk, rfl, rfl, ho, hli, hbw⟩ := hrel
    obtain ⟨av, cv, rfl, hcv, -⟩ := hli.form
    have hkl := listK_length (inK m xs) (k + 1)
    rw [hkl] at hli hcv ⊢
    have HKL := Lib.hid hkl
    clear hkl
    have hsz := hbw.size
    have hlo : w.heap.size + 1 ≤ wr.heap.size := by
      obtain ⟨g, ay, ny, cy, e, -, hg1, hg2, -⟩ := hli.at k (inK m xs k) (listK_get _ _ _ (by omega)) (by have := HSM.out k; omega)
      omega
    have HLI := Lib.hid hli
    have HBW := Lib.hid hbw
    by_cases hltk : k < n
    · obtain ⟨x, hx⟩ : ∃ x, m[k]? = some x := ⟨_, List.getElem?_eq_getElem (by rw [hlen]; exact hltk)⟩
      obtain ⟨b1, o1, es, rfl, hbB1, hr, hs⟩ := HL.out.2 k x hx
      have hrr := rangeAt_kept hr (show b1 < w.heap.size from hbB1) (Kept.of_below (I := Under w.heap.size) hbw fun b hb => hb)
      have hsw := shOp.below hs hbw (Nat.le_refl _)
      have hbx' : shOp.bulk x ≤ 1048576 := by have h1 := bulk_mem shOp.bulk m k x hx; have h2 := HB.out; omega
      rw [shOp_bulk, bulk_ints] at hbx'
      obtain ⟨ae, ne, ce, rfl, ge, le, me⟩ := shOp_reads.1 hsw
      have hfk : inK m xs (k + 1) = fwN x.1 x.2.1 x.2.2.1 x.2.2.2 (inK m xs k) := by
        show fwOp (opAt m k) (inK m xs k) = _
        rw [opAt_get hx]
        rfl
      have hgk : inKB m xs (k + 1) = (inKB m xs k || fwB x.1 x.2.1 x.2.2.1 x.2.2.2 (inK m xs k)) := by
        show (inKB m xs k || fwOpB (opAt m k) (inK m xs k)) = _
        rw [opAt_get hx]
        rfl
      rw [shOp_size] at hrr
      have d0 := hrr 0 _ rfl
      have d1 := hrr 1 _ rfl
      have d2 := hrr 2 _ rfl
      have d3 := hrr 3 _ rfl
      simp only [Nat.add_zero] at d0
      have hq := (Below.refl wr.heap.size wr).alloc (Nat.le_refl _) (.cells #[.int .i64 x.1, .int .i64 x.2.1, .int .i64 x.2.2.1, .slice ae ne ce] 38 (0, 0))
      have hqn := heap_alloc_new wr (.cells #[.int .i64 x.1, .int .i64 x.2.1, .int .i64 x.2.2.1, .slice ae ne ce] 38 (0, 0))
      have hqs : (wr.alloc (.cells #[.int .i64 x.1, .int .i64 x.2.1, .int .i64 x.2.2.1, .slice ae ne ce] 38 (0, 0))).heap.size = wr.heap.size + 1 := by simp
      go_upto_region 7 with fail
      generalize wr.alloc (.cells #[.int .i64 x.1, .int .i64 x.2.1, .int .i64 x.2.2.1, .slice ae ne ce] 38 (0, 0)) = w4 at hq hqn hqs ⊢
      have hli4 := hli.below hq (Nat.le_refl _)
      obtain ⟨g, ay, ny, cy, rfl, hg1, hg2, hg3, cg, iy⟩ := hli4.at k (inK m xs k) (listK_get _ _ _ (by omega)) (by have := HSM.out k; omega)
      have hb4 := hbw.trans (hq.mono hsz)
      have hdr : Below w.heap.size w w4.drew := hb4.trans ⟨rfl, rfl, rfl, Nat.le_refl _, fun _ _ => rfl⟩
      have hds : w4.drew.heap.size = w4.heap.size := rfl
      have hC := implOpForward_any w4.drew x.1 x.2.1 x.2.2.1 ae ne ce x.2.2.2 ay ny cy (inK m xs k) ((((me.ints (by rw [← me.1]; exact hbx')).below hq (by omega)).below (show Below w4.heap.size w4 w4.drew from (Below.refl _ _).drew) (by omega)).le (by omega)) ge le ((iy.below (show Below w4.heap.size w4 w4.drew from (Below.refl _ _).drew) (by omega)).le (by omega)) (HG.out.below hlt hdr)
      rw [← hfk] at hC
      obtain ⟨fl, hfl⟩ : ∃ q, fwB x.1 x.2.1 x.2.2.1 x.2.2.2 (inK m xs k) = q := ⟨_, rfl⟩
      rw [hfl] at hC hgk
      have HC := Lib.hid hC
      have HGK := Lib.hid hgk
      have HLI4 := Lib.hid hli4
      have HB4 := Lib.hid hb4
      have hkk : (k : Int) < (k : Int) + 1 := by omega
      obtain ⟨⟨p0, p1, p2, p3⟩, -⟩ := cells4 hqn
      have hhi : wr.heap.size ≤ w4.heap.size := by omega
      clear hr hrr hs hsw me hx hbx' hfk hgk hfl hC hbB1 hdr hli hbw iy hli4 hb4 hq hqn d0 d1 d2 d3 HLI HBW
      have hlo4 : w.heap.size + 1 ≤ w4.heap.size := by omega
      go_cut [10, 11] (fun t u wx => u = .bool fl ∧ Row w4.heap.size wx t (inK m xs (k + 1)) ∧ Below w4.heap.size w4 wx)
      case first =>
        go_region_law (first
          | (go_simp; go_at_call 150; (with_reducible refine HC.out.mono ?_); rintro e wt ⟨v', rfl, hr, hb⟩; have HR := Lib.hid hr; have HBT := Lib.hid hb; clear hr hb))
        all_goals
          go_wp2_with fail
          go_meet
          case rel => exact ⟨rfl, HR.out, ((Below.refl w4.heap.size w4).drew).trans HBT.out⟩
      case rest =>
        obtain ⟨rfl, hr, hb⟩ := hcut
        obtain ⟨w5, rfl⟩ : ∃ W, W = wc := ⟨_, rfl⟩
        obtain ⟨u2, hu2⟩ : ∃ u, u = inK m xs (k + 1) := ⟨_, rfl⟩
        rw [← hu2] at hr
        obtain ⟨a2, c2, rfl, -⟩ := hr.form
        have hl2 := (HLI4.out.below hb (by omega)).wide (hi' := w4.heap.size) (Nat.le_refl _) (by omega) hb.size
        obtain ⟨us, G, h1, h2, h3, h4, h5⟩ := hl2.all
        obtain ⟨n2, hn2⟩ : ∃ q, u2.length = q := ⟨_, rfl⟩
        rw [hn2] at hr ⊢
        have hP : Hid (∀ (w6 : World) (g' cap : Nat), w6.ownsRow (w.heap.size + 1) 56 1 (.slice (some ⟨g', 0, none⟩) (k + 1 + 1) cap) (k + 1 + 1) (us ++ [.slice a2 n2 c2]) → (w5.alloc (.cells #[.slice a2 n2 c2] 56 (0, 0))).grownBy w6 (Value.slice (some ⟨g, 0, none⟩) (k + 1) cv).ownBlock →
            ((Value.slice (some ⟨g, 0, none⟩) (k + 1) cv).ownBlock = some g' ∨ g' = (w5.alloc (.cells #[.slice a2 n2 c2] 56 (0, 0))).heap.size) → ListL ownRow 56 (w.heap.size + 1) w6.heap.size w6 (.slice (some ⟨g', 0, none⟩) (k + 1 + 1) cap) (listK (inK m xs) (k + 1 + 1)) ∧ Below (w.heap.size + 1) w5 w6) := Lib.hid fun w6 g' cap ho hgr hat => by
          have hp := ListL.put (S := ownRow) (T := 56) (lo := w.heap.size + 1) (hi := w4.heap.size) (w := w5) (w' := w6) (v := .slice (some ⟨g, 0, none⟩) (k + 1) cv) (v' := .slice (some ⟨g', 0, none⟩) (k + 1 + 1) cap) (xs := listK (inK m xs) (k + 1)) (o := (.cells #[.slice a2 n2 c2] 56 (0, 0))) (x := u2) (F := FromB w4.heap.size w5.heap.size)
            hlo4 h1 h2 hb.size h3 h4 h5 (Row.ownRow hr) (fun b o f => f) rfl (by rw [HKL.out]; exact ho) hgr (by
              rcases hat with e | e
              · exact .inl e.symm
              · exact .inr (congrArg some e))
          rw [hu2] at hp
          exact hp
        rw [HKL.out] at h1
        have HRD : Hid ((w5.alloc (.cells #[.slice a2 n2 c2] 56 (0, 0))).ownsRow (w.heap.size + 1) 56 1 (.slice (some ⟨g, 0, none⟩) (k + 1) cv) (k + 1) us) := Lib.hid (World.ownsRow.alloc h1 _)
        have HND : Hid (∀ j u, ([Value.slice a2 n2 c2] : List Value)[j]? = some u → (w5.alloc (.cells #[.slice a2 n2 c2] 56 (0, 0))).cell? ((⟨w5.heap.size, 0, none⟩ : Addr).add j) = some u) := Lib.hid (World.news_of_block (heap_alloc_new w5 (.cells #[.slice a2 n2 c2] 56 (0, 0))))
        have hs4 := hb.size
        have HBS : Hid (w.heap.size + 1 ≤ (w5.alloc (.cells #[.slice a2 n2 c2] 56 (0, 0))).heap.size) := Lib.hid (by rw [size_one']; omega)
        have HB4 := Lib.hid (HB4.out.trans (hb.mono (by omega)))
        clear p0 p1 p2 p3 cg h1 h2 h3 h4 h5 hl2 hb hr HLI4 HC
        cases q
        all_goals
          go_wp2_with (at_builtin; refine wpList_append_lies _ rfl _ _ 27 rfl (w.heap.size + 1) 56 j0 (.agg #[.slice none 0 0]) 1 24 Tryz.underlying27 hj hy0 hy1 hy2 rfl (by decide) _ _ _ rfl HRD.out ⟨w5.heap.size, 0, none⟩ 1 1 [.slice a2 n2 c2] rfl rfl HND.out (slices_one _ _ _) (by omega) (by unfold maxLen; omega) (by omega) HBS.out _ rfl ?_; intro g' cap w6 hown5 hgrow5 hat5 _; obtain ⟨hli5, hb5⟩ := hP.out w6 g' cap hown5 hgrow5 hat5; have HLI5 := Lib.hid hli5; have HB5 := Lib.hid (HB4.out.trans (hb5.mono (by omega))); clear hown5 hgrow5 hat5 hli5 hb5)
          go_roundw
          case rel => exact ⟨k + 1, _, by omega, by go_num, rfl, Lib.hid (by rw [HGK.out, ← ho.out] <;> rfl), HLI5.out, HB5.out⟩
          case measure => simp [intOf]; omega
    · obtain rfl : k = n := by omega
      clear hli hbw
      go_wp2_with fail
      go_ret2
      exact ⟨_, by rw [← ho.out] <;> rfl, HLI.out.wide (by omega) (Nat.le_refl _) (Nat.le_refl _), HBW.out⟩
end Go.Proofs.YtpnifgpmleaohaaGreatDoor

end
