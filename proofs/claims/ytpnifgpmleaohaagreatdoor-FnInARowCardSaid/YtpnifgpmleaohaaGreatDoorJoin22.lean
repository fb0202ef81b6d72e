import Derived.Test.YtpnifgpmleaohaaGreatDoorJoin21
import Derived.Test.YtpnifgpmleaohaaGreatDoorJoin17
/-! YtpnifgpmleaohaaGreatDoorZOpL -/
section

namespace Go.Proofs.YtpnifgpmleaohaaGreatDoor
open Go.RowKit
set_option linter.unusedVariables false

theorem backDense_method (i o : Int) (a : Option Addr) (n cp : Nat) (w : World) : (method 221 255 (.agg #[.int .i64 o, .int .i64 i, .slice a n cp]) "loop.example/g01407/impl.back").run Tryz.prog w = .ok (280, .agg #[.int .i64 o, .int .i64 i, .slice a n cp]) w := by kernel_rfl
set_option maxRecDepth 100000 in
theorem implBackwardDense (w : World) (k i o : Int) (a : Option Addr) (n cp : Nat) (ps : List Int) (a2 : Option Addr) (n2 c4 : Nat) (xs : List Int) (a3 : Option Addr) (n3 c6 : Nat) (ds : List Int) (h1 : IntsIn w.heap.size w a n ps) (hcp : n ≤ cp) (hcap : cp ≤ 9223372036854775807) (h2 : IntsIn w.heap.size w a2 n2 xs) (h3 : IntsIn w.heap.size w a3 n3 ds) (hg : LaidE w) (hk : k = 1) (hf : bwOk k i o ps xs ds = true) :
    Calls Tryz.prog 159 #[.agg #[.int .i64 k, .int .i64 i, .int .i64 o, .slice a n cp], .slice a2 n2 c4, .slice a3 n3 c6] w (RowsB w (bwN k i o ps xs ds) (bwG k i o ps xs ds) (bwB k i o ps xs ds)) := by
  have hlt := hg.lt
  have hal : Below w.heap.size w (w.alloc (.cells #[.int .i64 k, .int .i64 i, .int .i64 o, .slice a n cp] 38 (0, 0))) := (Below.refl _ _).alloc (Nat.le_refl _) _
  have hb0 := heap_alloc_new w (.cells #[.int .i64 k, .int .i64 i, .int .i64 o, .slice a n cp] 38 (0, 0))
  have hs0 : w.heap.size < (w.alloc (.cells #[.int .i64 k, .int .i64 i, .int .i64 o, .slice a n cp] 38 (0, 0))).heap.size := by simp
  have HK := Lib.hid (implOpOk_any (w.alloc (.cells #[.int .i64 k, .int .i64 i, .int .i64 o, .slice a n cp] 38 (0, 0))) k i o a n cp ps ((h1.below hal (Nat.le_refl _)).le hal.size) hcp hcap)
  have HV := Lib.hid fun (w1 : World) (hb1 : Below w.heap.size w w1) => implVecOk_any w1 a2 n2 c4 xs ((h2.below hb1 (Nat.le_refl _)).le hb1.size)
  have HD := Lib.hid fun (w1 : World) (hb1 : Below w.heap.size w w1) => implVecOk_any w1 a3 n3 c6 ds ((h3.below hb1 (Nat.le_refl _)).le hb1.size)
  have hlx := h2.len
  have hld := h3.len
  obtain ⟨e1, e2, e3⟩ := bwN_is hf
  rw [e1, e2, e3]
  unfold bwOk fwOk at hf
  simp only [Bool.and_eq_true, decide_eq_true_eq] at hf
  obtain ⟨⟨⟨⟨f1, f2⟩, f3⟩, f4⟩, f5⟩ := hf
  have hn4 : k = 4 → 1 ≤ n := fun hk4 => by
    have h := f1
    unfold opOkB at h
    simp only [Bool.and_eq_true, decide_eq_true_eq] at h
    have hl := h.1.2
    rw [h1.len] at hl
    unfold opSz at hl
    rw [h.1.1.1.1.2, h.1.1.1.2, hk4] at hl
    simp at hl
    omega
  have hn3 : 1 ≤ n3 := by
    have h := (vecOkB_has f4).1
    omega
  rw [f1] at HK
  rw [Hid] at HV HD
  simp only [f2] at HV
  simp only [f4] at HD
  replace HV := Lib.hid HV
  replace HD := Lib.hid HD
  rw [hlx] at f3
  rw [hld] at f5
  have hne : ((n2 : Int) != i) = false := by simp [f3]
  have hne3 : ((n3 : Int) != o) = false := by simp [f5]
  have HB0 := Lib.hid hb0
  have HA := Lib.hid hal
  have H1 := Lib.hid h1
  have H2 := Lib.hid h2
  have H3 := Lib.hid h3
  have HG := Lib.hid hg
  subst hk
  clear hn4
  have HN3 := Lib.hid hn3
  clear h1 h2 h3 hg hal hb0 e1 e2 e3 f1 f2 f4 hlx hld hn3
  go_enter Tryz.func159, Tryz.ntmps159
  go_wp2_with fail
  refine HK.out.mono ?_
  rintro e w1 ⟨rfl, hb1⟩
  have hw1 := HA.out.trans (hb1.mono HA.out.size)
  have hbx := (hb1.block w.heap.size hs0).trans HB0.out
  obtain ⟨c0, c1, c2, c3⟩ := cells4 hbx
  have HW1 := Lib.hid hw1
  clear hb1 hw1 hbx
  go_wp2_with fail
  refine (HV.out w1 HW1.out).mono ?_
  rintro e w2 ⟨rfl, rfl⟩
  go_wp2_with fail
  refine (HD.out w1 HW1.out).mono ?_
  rintro e w2 ⟨rfl, rfl⟩
  go_wp2_with fail
  refine (opOf_1 w1 i o a n cp).mono ?_
  rintro e w3 ⟨rfl, hb3⟩
  have hw3 := HW1.out.trans (hb3.mono HW1.out.size)
  have I1 := (H1.out.below hw3 (Nat.le_refl _)).le hw3.size
  have I2 := (H2.out.below hw3 (Nat.le_refl _)).le hw3.size
  have I3 := (H3.out.below hw3 (Nat.le_refl _)).le hw3.size
  have IG := HG.out.below hlt hw3
  have hn3 := HN3.out
  have HC := Lib.hid (implBackDense w3 1 i o a n cp ps a2 n2 c4 xs a3 n3 c6 ds I1 hcp hcap I2 I3 IG)
  have HW3 := Lib.hid hw3
  have hm := backDense_method i o a n cp
  clear hb3 hw3 I1 I2 I3 IG hn3 c0 c1 c2 c3
  go_wp2_with fail
  refine HC.out.mono ?_
  rintro e w4 ⟨v, u, rfl, hr, hu, hap, hb4⟩
  go_wp2_with fail
  go_ret3
  exact ⟨v, u, by simp, hr.le HW3.out.size, by simpa using hu.le HW3.out.size, hap, HW3.out.trans (hb4.mono HW3.out.size)⟩
theorem backBias_method (i o : Int) (a : Option Addr) (n cp : Nat) (w : World) : (method 221 257 (.agg #[.slice a n cp]) "loop.example/g01407/impl.back").run Tryz.prog w = .ok (291, .agg #[.slice a n cp]) w := by kernel_rfl
set_option maxRecDepth 100000 in
theorem implBackwardBias (w : World) (k i o : Int) (a : Option Addr) (n cp : Nat) (ps : List Int) (a2 : Option Addr) (n2 c4 : Nat) (xs : List Int) (a3 : Option Addr) (n3 c6 : Nat) (ds : List Int) (h1 : IntsIn w.heap.size w a n ps) (hcp : n ≤ cp) (hcap : cp ≤ 9223372036854775807) (h2 : IntsIn w.heap.size w a2 n2 xs) (h3 : IntsIn w.heap.size w a3 n3 ds) (hg : LaidE w) (hk : k = 2) (hf : bwOk k i o ps xs ds = true) :
    Calls Tryz.prog 159 #[.agg #[.int .i64 k, .int .i64 i, .int .i64 o, .slice a n cp], .slice a2 n2 c4, .slice a3 n3 c6] w (RowsB w (bwN k i o ps xs ds) (bwG k i o ps xs ds) (bwB k i o ps xs ds)) := by
  have hlt := hg.lt
  have hal : Below w.heap.size w (w.alloc (.cells #[.int .i64 k, .int .i64 i, .int .i64 o, .slice a n cp] 38 (0, 0))) := (Below.refl _ _).alloc (Nat.le_refl _) _
  have hb0 := heap_alloc_new w (.cells #[.int .i64 k, .int .i64 i, .int .i64 o, .slice a n cp] 38 (0, 0))
  have hs0 : w.heap.size < (w.alloc (.cells #[.int .i64 k, .int .i64 i, .int .i64 o, .slice a n cp] 38 (0, 0))).heap.size := by simp
  have HK := Lib.hid (implOpOk_any (w.alloc (.cells #[.int .i64 k, .int .i64 i, .int .i64 o, .slice a n cp] 38 (0, 0))) k i o a n cp ps ((h1.below hal (Nat.le_refl _)).le hal.size) hcp hcap)
  have HV := Lib.hid fun (w1 : World) (hb1 : Below w.heap.size w w1) => implVecOk_any w1 a2 n2 c4 xs ((h2.below hb1 (Nat.le_refl _)).le hb1.size)
  have HD := Lib.hid fun (w1 : World) (hb1 : Below w.heap.size w w1) => implVecOk_any w1 a3 n3 c6 ds ((h3.below hb1 (Nat.le_refl _)).le hb1.size)
  have hlx := h2.len
  have hld := h3.len
  obtain ⟨e1, e2, e3⟩ := bwN_is hf
  rw [e1, e2, e3]
  unfold bwOk fwOk at hf
  simp only [Bool.and_eq_true, decide_eq_true_eq] at hf
  obtain ⟨⟨⟨⟨f1, f2⟩, f3⟩, f4⟩, f5⟩ := hf
  have hn4 : k = 4 → 1 ≤ n := fun hk4 => by
    have h := f1
    unfold opOkB at h
    simp only [Bool.and_eq_true, decide_eq_true_eq] at h
    have hl := h.1.2
    rw [h1.len] at hl
    unfold opSz at hl
    rw [h.1.1.1.1.2, h.1.1.1.2, hk4] at hl
    simp at hl
    omega
  have hn3 : 1 ≤ n3 := by
    have h := (vecOkB_has f4).1
    omega
  rw [f1] at HK
  rw [Hid] at HV HD
  simp only [f2] at HV
  simp only [f4] at HD
  replace HV := Lib.hid HV
  replace HD := Lib.hid HD
  rw [hlx] at f3
  rw [hld] at f5
  have hne : ((n2 : Int) != i) = false := by simp [f3]
  have hne3 : ((n3 : Int) != o) = false := by simp [f5]
  have HB0 := Lib.hid hb0
  have HA := Lib.hid hal
  have H1 := Lib.hid h1
  have H2 := Lib.hid h2
  have H3 := Lib.hid h3
  have HG := Lib.hid hg
  subst hk
  clear hn4
  have HN3 := Lib.hid hn3
  clear h1 h2 h3 hg hal hb0 e1 e2 e3 f1 f2 f4 hlx hld hn3
  go_enter Tryz.func159, Tryz.ntmps159
  go_wp2_with fail
  refine HK.out.mono ?_
  rintro e w1 ⟨rfl, hb1⟩
  have hw1 := HA.out.trans (hb1.mono HA.out.size)
  have hbx := (hb1.block w.heap.size hs0).trans HB0.out
  obtain ⟨c0, c1, c2, c3⟩ := cells4 hbx
  have HW1 := Lib.hid hw1
  clear hb1 hw1 hbx
  go_wp2_with fail
  refine (HV.out w1 HW1.out).mono ?_
  rintro e w2 ⟨rfl, rfl⟩
  go_wp2_with fail
  refine (HD.out w1 HW1.out).mono ?_
  rintro e w2 ⟨rfl, rfl⟩
  go_wp2_with fail
  refine (opOf_2 w1 i o a n cp).mono ?_
  rintro e w3 ⟨rfl, hb3⟩
  have hw3 := HW1.out.trans (hb3.mono HW1.out.size)
  have I1 := (H1.out.below hw3 (Nat.le_refl _)).le hw3.size
  have I2 := (H2.out.below hw3 (Nat.le_refl _)).le hw3.size
  have I3 := (H3.out.below hw3 (Nat.le_refl _)).le hw3.size
  have IG := HG.out.below hlt hw3
  have hn3 := HN3.out
  have HC := Lib.hid (implBackBias w3 2 i o a n cp ps a2 n2 c4 xs a3 n3 c6 ds I1 hcp hcap I2 I3 IG hn3)
  have HW3 := Lib.hid hw3
  have hm := backBias_method i o a n cp
  clear hb3 hw3 I1 I2 I3 IG hn3 c0 c1 c2 c3
  go_wp2_with fail
  refine HC.out.mono ?_
  rintro e w4 ⟨v, u, rfl, hr, hu, hap, hb4⟩
  go_wp2_with fail
  go_ret3
  exact ⟨v, u, by simp, hr.le HW3.out.size, by simpa using hu.le HW3.out.size, hap, HW3.out.trans (hb4.mono HW3.out.size)⟩
theorem backRelu_method (i o : Int) (a : Option Addr) (n cp : Nat) (w : World) : (method 221 259 (.agg #[]) "loop.example/g01407/impl.back").run Tryz.prog w = .ok (294, .agg #[]) w := by kernel_rfl
set_option maxRecDepth 100000 in
theorem implBackwardRelu (w : World) (k i o : Int) (a : Option Addr) (n cp : Nat) (ps : List Int) (a2 : Option Addr) (n2 c4 : Nat) (xs : List Int) (a3 : Option Addr) (n3 c6 : Nat) (ds : List Int) (h1 : IntsIn w.heap.size w a n ps) (hcp : n ≤ cp) (hcap : cp ≤ 9223372036854775807) (h2 : IntsIn w.heap.size w a2 n2 xs) (h3 : IntsIn w.heap.size w a3 n3 ds) (hg : LaidE w) (hk : k = 3) (hf : bwOk k i o ps xs ds = true) :
    Calls Tryz.prog 159 #[.agg #[.int .i64 k, .int .i64 i, .int .i64 o, .slice a n cp], .slice a2 n2 c4, .slice a3 n3 c6] w (RowsB w (bwN k i o ps xs ds) (bwG k i o ps xs ds) (bwB k i o ps xs ds)) := by
  have hlt := hg.lt
  have hal : Below w.heap.size w (w.alloc (.cells #[.int .i64 k, .int .i64 i, .int .i64 o, .slice a n cp] 38 (0, 0))) := (Below.refl _ _).alloc (Nat.le_refl _) _
  have hb0 := heap_alloc_new w (.cells #[.int .i64 k, .int .i64 i, .int .i64 o, .slice a n cp] 38 (0, 0))
  have hs0 : w.heap.size < (w.alloc (.cells #[.int .i64 k, .int .i64 i, .int .i64 o, .slice a n cp] 38 (0, 0))).heap.size := by simp
  have HK := Lib.hid (implOpOk_any (w.alloc (.cells #[.int .i64 k, .int .i64 i, .int .i64 o, .slice a n cp] 38 (0, 0))) k i o a n cp ps ((h1.below hal (Nat.le_refl _)).le hal.size) hcp hcap)
  have HV := Lib.hid fun (w1 : World) (hb1 : Below w.heap.size w w1) => implVecOk_any w1 a2 n2 c4 xs ((h2.below hb1 (Nat.le_refl _)).le hb1.size)
  have HD := Lib.hid fun (w1 : World) (hb1 : Below w.heap.size w w1) => implVecOk_any w1 a3 n3 c6 ds ((h3.below hb1 (Nat.le_refl _)).le hb1.size)
  have hlx := h2.len
  have hld := h3.len
  obtain ⟨e1, e2, e3⟩ := bwN_is hf
  rw [e1, e2, e3]
  unfold bwOk fwOk at hf
  simp only [Bool.and_eq_true, decide_eq_true_eq] at hf
  obtain ⟨⟨⟨⟨f1, f2⟩, f3⟩, f4⟩, f5⟩ := hf
  have hn4 : k = 4 → 1 ≤ n := fun hk4 => by
    have h := f1
    unfold opOkB at h
    simp only [Bool.and_eq_true, decide_eq_true_eq] at h
    have hl := h.1.2
    rw [h1.len] at hl
    unfold opSz at hl
    rw [h.1.1.1.1.2, h.1.1.1.2, hk4] at hl
    simp at hl
    omega
  have hn3 : 1 ≤ n3 := by
    have h := (vecOkB_has f4).1
    omega
  rw [f1] at HK
  rw [Hid] at HV HD
  simp only [f2] at HV
  simp only [f4] at HD
  replace HV := Lib.hid HV
  replace HD := Lib.hid HD
  rw [hlx] at f3
  rw [hld] at f5
  have hne : ((n2 : Int) != i) = false := by simp [f3]
  have hne3 : ((n3 : Int) != o) = false := by simp [f5]
  have HB0 := Lib.hid hb0
  have HA := Lib.hid hal
  have H1 := Lib.hid h1
  have H2 := Lib.hid h2
  have H3 := Lib.hid h3
  have HG := Lib.hid hg
  subst hk
  clear hn4
  have HN3 := Lib.hid hn3
  clear h1 h2 h3 hg hal hb0 e1 e2 e3 f1 f2 f4 hlx hld hn3
  go_enter Tryz.func159, Tryz.ntmps159
  go_wp2_with fail
  refine HK.out.mono ?_
  rintro e w1 ⟨rfl, hb1⟩
  have hw1 := HA.out.trans (hb1.mono HA.out.size)
  have hbx := (hb1.block w.heap.size hs0).trans HB0.out
  obtain ⟨c0, c1, c2, c3⟩ := cells4 hbx
  have HW1 := Lib.hid hw1
  clear hb1 hw1 hbx
  go_wp2_with fail
  refine (HV.out w1 HW1.out).mono ?_
  rintro e w2 ⟨rfl, rfl⟩
  go_wp2_with fail
  refine (HD.out w1 HW1.out).mono ?_
  rintro e w2 ⟨rfl, rfl⟩
  go_wp2_with fail
  refine (opOf_3 w1 i o a n cp).mono ?_
  rintro e w3 ⟨rfl, hb3⟩
  have hw3 := HW1.out.trans (hb3.mono HW1.out.size)
  have I1 := (H1.out.below hw3 (Nat.le_refl _)).le hw3.size
  have I2 := (H2.out.below hw3 (Nat.le_refl _)).le hw3.size
  have I3 := (H3.out.below hw3 (Nat.le_refl _)).le hw3.size
  have IG := HG.out.below hlt hw3
  have hn3 := HN3.out
  have HC := Lib.hid (implBackRelu w3 3 i o a n cp ps a2 n2 c4 xs a3 n3 c6 ds I1 hcp hcap I2 I3 IG #[] rfl)
  have HW3 := Lib.hid hw3
  have hm := backRelu_method i o a n cp
  clear hb3 hw3 I1 I2 I3 IG hn3 c0 c1 c2 c3
  go_wp2_with fail
  refine HC.out.mono ?_
  rintro e w4 ⟨v, u, rfl, hr, hu, hap, hb4⟩
  go_wp2_with fail
  go_ret3
  exact ⟨v, u, by simp, hr.le HW3.out.size, by simpa using hu.le HW3.out.size, hap, HW3.out.trans (hb4.mono HW3.out.size)⟩
theorem backScale_method (i o : Int) (a : Option Addr) (n cp : Nat) (w : World) : (method 221 260 (.agg #[.slice a n cp]) "loop.example/g01407/impl.back").run Tryz.prog w = .ok (301, .agg #[.slice a n cp]) w := by kernel_rfl
set_option maxRecDepth 100000 in
theorem implBackwardScale (w : World) (k i o : Int) (a : Option Addr) (n cp : Nat) (ps : List Int) (a2 : Option Addr) (n2 c4 : Nat) (xs : List Int) (a3 : Option Addr) (n3 c6 : Nat) (ds : List Int) (h1 : IntsIn w.heap.size w a n ps) (hcp : n ≤ cp) (hcap : cp ≤ 9223372036854775807) (h2 : IntsIn w.heap.size w a2 n2 xs) (h3 : IntsIn w.heap.size w a3 n3 ds) (hg : LaidE w) (hk : k = 4) (hf : bwOk k i o ps xs ds = true) :
    Calls Tryz.prog 159 #[.agg #[.int .i64 k, .int .i64 i, .int .i64 o, .slice a n cp], .slice a2 n2 c4, .slice a3 n3 c6] w (RowsB w (bwN k i o ps xs ds) (bwG k i o ps xs ds) (bwB k i o ps xs ds)) := by
  have hlt := hg.lt
  have hal : Below w.heap.size w (w.alloc (.cells #[.int .i64 k, .int .i64 i, .int .i64 o, .slice a n cp] 38 (0, 0))) := (Below.refl _ _).alloc (Nat.le_refl _) _
  have hb0 := heap_alloc_new w (.cells #[.int .i64 k, .int .i64 i, .int .i64 o, .slice a n cp] 38 (0, 0))
  have hs0 : w.heap.size < (w.alloc (.cells #[.int .i64 k, .int .i64 i, .int .i64 o, .slice a n cp] 38 (0, 0))).heap.size := by simp
  have HK := Lib.hid (implOpOk_any (w.alloc (.cells #[.int .i64 k, .int .i64 i, .int .i64 o, .slice a n cp] 38 (0, 0))) k i o a n cp ps ((h1.below hal (Nat.le_refl _)).le hal.size) hcp hcap)
  have HV := Lib.hid fun (w1 : World) (hb1 : Below w.heap.size w w1) => implVecOk_any w1 a2 n2 c4 xs ((h2.below hb1 (Nat.le_refl _)).le hb1.size)
  have HD := Lib.hid fun (w1 : World) (hb1 : Below w.heap.size w w1) => implVecOk_any w1 a3 n3 c6 ds ((h3.below hb1 (Nat.le_refl _)).le hb1.size)
  have hlx := h2.len
  have hld := h3.len
  obtain ⟨e1, e2, e3⟩ := bwN_is hf
  rw [e1, e2, e3]
  unfold bwOk fwOk at hf
  simp only [Bool.and_eq_true, decide_eq_true_eq] at hf
  obtain ⟨⟨⟨⟨f1, f2⟩, f3⟩, f4⟩, f5⟩ := hf
  have hn4 : k = 4 → 1 ≤ n := fun hk4 => by
    have h := f1
    unfold opOkB at h
    simp only [Bool.and_eq_true, decide_eq_true_eq] at h
    have hl := h.1.2
    rw [h1.len] at hl
    unfold opSz at hl
    rw [h.1.1.1.1.2, h.1.1.1.2, hk4] at hl
    simp at hl
    omega
  have hn3 : 1 ≤ n3 := by
    have h := (vecOkB_has f4).1
    omega
  rw [f1] at HK
  rw [Hid] at HV HD
  simp only [f2] at HV
  simp only [f4] at HD
  replace HV := Lib.hid HV
  replace HD := Lib.hid HD
  rw [hlx] at f3
  rw [hld] at f5
  have hne : ((n2 : Int) != i) = false := by simp [f3]
  have hne3 : ((n3 : Int) != o) = false := by simp [f5]
  have HB0 := Lib.hid hb0
  have HA := Lib.hid hal
  have H1 := Lib.hid h1
  have H2 := Lib.hid h2
  have H3 := Lib.hid h3
  have HG := Lib.hid hg
  subst hk
  have hn5 := hn4 rfl
  clear hn4
  have HN3 := Lib.hid hn3
  clear h1 h2 h3 hg hal hb0 e1 e2 e3 f1 f2 f4 hlx hld hn3
  go_enter Tryz.func159, Tryz.ntmps159
  go_wp2_with fail
  refine HK.out.mono ?_
  rintro e w1 ⟨rfl, hb1⟩
  have hw1 := HA.out.trans (hb1.mono HA.out.size)
  have hbx := (hb1.block w.heap.size hs0).trans HB0.out
  obtain ⟨c0, c1, c2, c3⟩ := cells4 hbx
  have HW1 := Lib.hid hw1
  clear hb1 hw1 hbx
  go_wp2_with fail
  refine (HV.out w1 HW1.out).mono ?_
  rintro e w2 ⟨rfl, rfl⟩
  go_wp2_with fail
  refine (HD.out w1 HW1.out).mono ?_
  rintro e w2 ⟨rfl, rfl⟩
  go_wp2_with fail
  refine (opOf_4 w1 i o a n cp).mono ?_
  rintro e w3 ⟨rfl, hb3⟩
  have hw3 := HW1.out.trans (hb3.mono HW1.out.size)
  have I1 := (H1.out.below hw3 (Nat.le_refl _)).le hw3.size
  have I2 := (H2.out.below hw3 (Nat.le_refl _)).le hw3.size
  have I3 := (H3.out.below hw3 (Nat.le_refl _)).le hw3.size
  have IG := HG.out.below hlt hw3
  have hn3 := HN3.out
  have HC := Lib.hid (implBackScale w3 4 i o a n cp ps a2 n2 c4 xs a3 n3 c6 ds I1 hcp hcap I2 I3 IG hn5)
  have HW3 := Lib.hid hw3
  have hm := backScale_method i o a n cp
  clear hb3 hw3 I1 I2 I3 IG hn3 c0 c1 c2 c3
  go_wp2_with fail
  refine HC.out.mono ?_
  rintro e w4 ⟨v, u, rfl, hr, hu, hap, hb4⟩
  go_wp2_with fail
  go_ret3
  exact ⟨v, u, by simp, hr.le HW3.out.size, by simpa using hu.le HW3.out.size, hap, HW3.out.trans (hb4.mono HW3.out.size)⟩
theorem backRes_method (i o : Int) (a : Option Addr) (n cp : Nat) (w : World) : (method 221 262 (.agg #[.int .i64 o, .int .i64 i, .slice a n cp]) "loop.example/g01407/impl.back").run Tryz.prog w = .ok (303, .agg #[.int .i64 o, .int .i64 i, .slice a n cp]) w := by kernel_rfl
set_option maxRecDepth 100000 in
theorem implBackwardRes (w : World) (k i o : Int) (a : Option Addr) (n cp : Nat) (ps : List Int) (a2 : Option Addr) (n2 c4 : Nat) (xs : List Int) (a3 : Option Addr) (n3 c6 : Nat) (ds : List Int) (h1 : IntsIn w.heap.size w a n ps) (hcp : n ≤ cp) (hcap : cp ≤ 9223372036854775807) (h2 : IntsIn w.heap.size w a2 n2 xs) (h3 : IntsIn w.heap.size w a3 n3 ds) (hg : LaidE w) (hk : k = 5) (hf : bwOk k i o ps xs ds = true) :
    Calls Tryz.prog 159 #[.agg #[.int .i64 k, .int .i64 i, .int .i64 o, .slice a n cp], .slice a2 n2 c4, .slice a3 n3 c6] w (RowsB w (bwN k i o ps xs ds) (bwG k i o ps xs ds) (bwB k i o ps xs ds)) := by
  have hlt := hg.lt
  have hal : Below w.heap.size w (w.alloc (.cells #[.int .i64 k, .int .i64 i, .int .i64 o, .slice a n cp] 38 (0, 0))) := (Below.refl _ _).alloc (Nat.le_refl _) _
  have hb0 := heap_alloc_new w (.cells #[.int .i64 k, .int .i64 i, .int .i64 o, .slice a n cp] 38 (0, 0))
  have hs0 : w.heap.size < (w.alloc (.cells #[.int .i64 k, .int .i64 i, .int .i64 o, .slice a n cp] 38 (0, 0))).heap.size := by simp
  have HK := Lib.hid (implOpOk_any (w.alloc (.cells #[.int .i64 k, .int .i64 i, .int .i64 o, .slice a n cp] 38 (0, 0))) k i o a n cp ps ((h1.below hal (Nat.le_refl _)).le hal.size) hcp hcap)
  have HV := Lib.hid fun (w1 : World) (hb1 : Below w.heap.size w w1) => implVecOk_any w1 a2 n2 c4 xs ((h2.below hb1 (Nat.le_refl _)).le hb1.size)
  have HD := Lib.hid fun (w1 : World) (hb1 : Below w.heap.size w w1) => implVecOk_any w1 a3 n3 c6 ds ((h3.below hb1 (Nat.le_refl _)).le hb1.size)
  have hlx := h2.len
  have hld := h3.len
  obtain ⟨e1, e2, e3⟩ := bwN_is hf
  rw [e1, e2, e3]
  unfold bwOk fwOk at hf
  simp only [Bool.and_eq_true, decide_eq_true_eq] at hf
  obtain ⟨⟨⟨⟨f1, f2⟩, f3⟩, f4⟩, f5⟩ := hf
  have hn4 : k = 4 → 1 ≤ n := fun hk4 => by
    have h := f1
    unfold opOkB at h
    simp only [Bool.and_eq_true, decide_eq_true_eq] at h
    have hl := h.1.2
    rw [h1.len] at hl
    unfold opSz at hl
    rw [h.1.1.1.1.2, h.1.1.1.2, hk4] at hl
    simp at hl
    omega
  have hn3 : 1 ≤ n3 := by
    have h := (vecOkB_has f4).1
    omega
  rw [f1] at HK
  rw [Hid] at HV HD
  simp only [f2] at HV
  simp only [f4] at HD
  replace HV := Lib.hid HV
  replace HD := Lib.hid HD
  rw [hlx] at f3
  rw [hld] at f5
  have hne : ((n2 : Int) != i) = false := by simp [f3]
  have hne3 : ((n3 : Int) != o) = false := by simp [f5]
  have HB0 := Lib.hid hb0
  have HA := Lib.hid hal
  have H1 := Lib.hid h1
  have H2 := Lib.hid h2
  have H3 := Lib.hid h3
  have HG := Lib.hid hg
  subst hk
  clear hn4
  have HN3 := Lib.hid hn3
  clear h1 h2 h3 hg hal hb0 e1 e2 e3 f1 f2 f4 hlx hld hn3
  go_enter Tryz.func159, Tryz.ntmps159
  go_wp2_with fail
  refine HK.out.mono ?_
  rintro e w1 ⟨rfl, hb1⟩
  have hw1 := HA.out.trans (hb1.mono HA.out.size)
  have hbx := (hb1.block w.heap.size hs0).trans HB0.out
  obtain ⟨c0, c1, c2, c3⟩ := cells4 hbx
  have HW1 := Lib.hid hw1
  clear hb1 hw1 hbx
  go_wp2_with fail
  refine (HV.out w1 HW1.out).mono ?_
  rintro e w2 ⟨rfl, rfl⟩
  go_wp2_with fail
  refine (HD.out w1 HW1.out).mono ?_
  rintro e w2 ⟨rfl, rfl⟩
  go_wp2_with fail
  refine (opOf_5 w1 i o a n cp).mono ?_
  rintro e w3 ⟨rfl, hb3⟩
  have hw3 := HW1.out.trans (hb3.mono HW1.out.size)
  have I1 := (H1.out.below hw3 (Nat.le_refl _)).le hw3.size
  have I2 := (H2.out.below hw3 (Nat.le_refl _)).le hw3.size
  have I3 := (H3.out.below hw3 (Nat.le_refl _)).le hw3.size
  have IG := HG.out.below hlt hw3
  have hn3 := HN3.out
  have HC := Lib.hid (implBackRes w3 5 i o a n cp ps a2 n2 c4 xs a3 n3 c6 ds I1 hcp hcap I2 I3 IG)
  have HW3 := Lib.hid hw3
  have hm := backRes_method i o a n cp
  clear hb3 hw3 I1 I2 I3 IG hn3 c0 c1 c2 c3
  go_wp2_with fail
  refine HC.out.mono ?_
  rintro e w4 ⟨v, u, rfl, hr, hu, hap, hb4⟩
  go_wp2_with fail
  go_ret3
  exact ⟨v, u, by simp, hr.le HW3.out.size, by simpa using hu.le HW3.out.size, hap, HW3.out.trans (hb4.mono HW3.out.size)⟩
theorem bwOk_kinds {k i o : Int} {ps xs ds : List Int} (h : bwOk k i o ps xs ds = true) : k = 1 ∨ k = 2 ∨ k = 3 ∨ k = 4 ∨ k = 5 := by
  unfold bwOk fwOk opOkB at h
  simp only [Bool.and_eq_true] at h
  have := inB_has h.1.1.1.1.1.1.1.1.1
  omega
set_option maxRecDepth 100000 in
theorem implOpBackward_any (w : World) (k i o : Int) (a : Option Addr) (n cp : Nat) (ps : List Int) (a2 : Option Addr) (n2 c4 : Nat) (xs : List Int) (a3 : Option Addr) (n3 c6 : Nat) (ds : List Int) (h1 : IntsIn w.heap.size w a n ps) (hcp : n ≤ cp) (hcap : cp ≤ 9223372036854775807) (h2 : IntsIn w.heap.size w a2 n2 xs) (h3 : IntsIn w.heap.size w a3 n3 ds) (hg : LaidE w) :
    Calls Tryz.prog 159 #[.agg #[.int .i64 k, .int .i64 i, .int .i64 o, .slice a n cp], .slice a2 n2 c4, .slice a3 n3 c6] w (RowsB w (bwN k i o ps xs ds) (bwG k i o ps xs ds) (bwB k i o ps xs ds)) := by
  cases hf : bwOk k i o ps xs ds with
  | true =>
    rcases bwOk_kinds hf with hk | hk | hk | hk | hk
    · exact implBackwardDense w k i o a n cp ps a2 n2 c4 xs a3 n3 c6 ds h1 hcp hcap h2 h3 hg hk hf
    · exact implBackwardBias w k i o a n cp ps a2 n2 c4 xs a3 n3 c6 ds h1 hcp hcap h2 h3 hg hk hf
    · exact implBackwardRelu w k i o a n cp ps a2 n2 c4 xs a3 n3 c6 ds h1 hcp hcap h2 h3 hg hk hf
    · exact implBackwardScale w k i o a n cp ps a2 n2 c4 xs a3 n3 c6 ds h1 hcp hcap h2 h3 hg hk hf
    · exact implBackwardRes w k i o a n cp ps a2 n2 c4 xs a3 n3 c6 ds h1 hcp hcap h2 h3 hg hk hf
  | false =>
    have hlt := hg.lt
    have hal : Below w.heap.size w (w.alloc (.cells #[.int .i64 k, .int .i64 i, .int .i64 o, .slice a n cp] 38 (0, 0))) := (Below.refl _ _).alloc (Nat.le_refl _) _
    have hb0 := heap_alloc_new w (.cells #[.int .i64 k, .int .i64 i, .int .i64 o, .slice a n cp] 38 (0, 0))
    have hs0 : w.heap.size < (w.alloc (.cells #[.int .i64 k, .int .i64 i, .int .i64 o, .slice a n cp] 38 (0, 0))).heap.size := by simp
    have HK := Lib.hid (implOpOk_any (w.alloc (.cells #[.int .i64 k, .int .i64 i, .int .i64 o, .slice a n cp] 38 (0, 0))) k i o a n cp ps ((h1.below hal (Nat.le_refl _)).le hal.size) hcp hcap)
    have HV := Lib.hid fun (w1 : World) (hb1 : Below w.heap.size w w1) => implVecOk_any w1 a2 n2 c4 xs ((h2.below hb1 (Nat.le_refl _)).le hb1.size)
    have HD := Lib.hid fun (w1 : World) (hb1 : Below w.heap.size w w1) => implVecOk_any w1 a3 n3 c6 ds ((h3.below hb1 (Nat.le_refl _)).le hb1.size)
    have hlx := h2.len
    have hld := h3.len
    obtain ⟨e1, e2, e3⟩ := bw_no hf
    rw [e1, e2, e3]
    unfold bwOk fwOk at hf
    obtain ⟨p, hp⟩ : ∃ p, opOkB k i o ps = p := ⟨_, rfl⟩
    obtain ⟨q, hq⟩ : ∃ q, vecOkB xs = q := ⟨_, rfl⟩
    obtain ⟨r, hr⟩ : ∃ r, vecOkB ds = r := ⟨_, rfl⟩
    rw [hp, hq, hr, hlx, hld] at hf
    rw [hp] at HK
    rw [Hid] at HV HD
    simp only [hq] at HV
    simp only [hr] at HD
    replace HV := Lib.hid HV
    replace HD := Lib.hid HD
    have HB0 := Lib.hid hb0
    have HA := Lib.hid hal
    clear h1 h2 h3 hg hal hb0 hp hq hr hlx hld hlt e1 e2 e3
    cases p
    · go_enter Tryz.func159, Tryz.ntmps159
      go_wp2_with fail
      refine HK.out.mono ?_
      rintro e w1 ⟨rfl, hb1⟩
      have HW1 := Lib.hid (HA.out.trans (hb1.mono HA.out.size))
      obtain ⟨c0, c1, c2, c3⟩ := cells4 ((hb1.block w.heap.size hs0).trans HB0.out)
      clear hb1
      go_wp2_with fail
      go_ret3
      exact ⟨_, _, rfl, Row.nil _ _, Row.nil _ _, (fun k _ => by simp [Value.ownBlock]), HW1.out⟩
    · cases q
      · go_enter Tryz.func159, Tryz.ntmps159
        go_wp2_with fail
        refine HK.out.mono ?_
        rintro e w1 ⟨rfl, hb1⟩
        have HW1 := Lib.hid (HA.out.trans (hb1.mono HA.out.size))
        obtain ⟨c0, c1, c2, c3⟩ := cells4 ((hb1.block w.heap.size hs0).trans HB0.out)
        clear hb1
        go_wp2_with fail
        refine (HV.out w1 HW1.out).mono ?_
        rintro e w2 ⟨rfl, rfl⟩
        go_wp2_with fail
        go_ret3
        exact ⟨_, _, rfl, Row.nil _ _, Row.nil _ _, (fun k _ => by simp [Value.ownBlock]), HW1.out⟩
      · cases r
        · go_enter Tryz.func159, Tryz.ntmps159
          go_wp2_with fail
          refine HK.out.mono ?_
          rintro e w1 ⟨rfl, hb1⟩
          have HW1 := Lib.hid (HA.out.trans (hb1.mono HA.out.size))
          obtain ⟨c0, c1, c2, c3⟩ := cells4 ((hb1.block w.heap.size hs0).trans HB0.out)
          clear hb1
          go_wp2_with fail
          refine (HV.out w1 HW1.out).mono ?_
          rintro e w2 ⟨rfl, rfl⟩
          go_wp2_with fail
          refine (HD.out w1 HW1.out).mono ?_
          rintro e w2 ⟨rfl, rfl⟩
          go_wp2_with fail
          go_ret3
          exact ⟨_, _, rfl, Row.nil _ _, Row.nil _ _, (fun k _ => by simp [Value.ownBlock]), HW1.out⟩
        · by_cases hi : (n2 : Int) = i
          · have hno : ¬ (n3 : Int) = o := by simpa [hi] using hf
            have hne : ((n2 : Int) != i) = false := by simp [hi]
            have hne3 : ((n3 : Int) != o) = true := by simpa using hno
            clear hf hi hno
            go_enter Tryz.func159, Tryz.ntmps159
            go_wp2_with fail
            refine HK.out.mono ?_
            rintro e w1 ⟨rfl, hb1⟩
            have HW1 := Lib.hid (HA.out.trans (hb1.mono HA.out.size))
            obtain ⟨c0, c1, c2, c3⟩ := cells4 ((hb1.block w.heap.size hs0).trans HB0.out)
            clear hb1
            go_wp2_with fail
            refine (HV.out w1 HW1.out).mono ?_
            rintro e w2 ⟨rfl, rfl⟩
            go_wp2_with fail
            refine (HD.out w1 HW1.out).mono ?_
            rintro e w2 ⟨rfl, rfl⟩
            go_wp2_with fail
            go_ret3
            exact ⟨_, _, rfl, Row.nil _ _, Row.nil _ _, (fun k _ => by simp [Value.ownBlock]), HW1.out⟩
          · have hne : ((n2 : Int) != i) = true := by simpa using hi
            clear hf hi
            go_enter Tryz.func159, Tryz.ntmps159
            go_wp2_with fail
            refine HK.out.mono ?_
            rintro e w1 ⟨rfl, hb1⟩
            have HW1 := Lib.hid (HA.out.trans (hb1.mono HA.out.size))
            obtain ⟨c0, c1, c2, c3⟩ := cells4 ((hb1.block w.heap.size hs0).trans HB0.out)
            clear hb1
            go_wp2_with fail
            refine (HV.out w1 HW1.out).mono ?_
            rintro e w2 ⟨rfl, rfl⟩
            go_wp2_with fail
            refine (HD.out w1 HW1.out).mono ?_
            rintro e w2 ⟨rfl, rfl⟩
            go_wp2_with fail
            go_ret3
            exact ⟨_, _, rfl, Row.nil _ _, Row.nil _ _, (fun k _ => by simp [Value.ownBlock]), HW1.out⟩
end Go.Proofs.YtpnifgpmleaohaaGreatDoor

end

/-! YtpnifgpmleaohaaGreatDoorZSeqC -/
section

namespace Go.Proofs.YtpnifgpmleaohaaGreatDoor
open Go.RowKit Go.Sort
set_option linter.unusedVariables false

set_option maxRecDepth 100000 in
set_option maxHeartbeats 800000 in
/-- One step back, called with its boxes. -/
theorem implStep_any (w : World) (bo BI bi : Nat) (k i o : Int) (ae : Option Addr) (ne ce : Nat) (ps : List Int) (ai : Option Addr) (ni ci : Nat) (is : List dRow) (j : Nat) (X : List Int) (ad : Option Addr) (nd cd : Nat) (ds : List Int)
    (ho : w.heap[bo]? = some (.cells #[.int .i64 k, .int .i64 i, .int .i64 o, .slice ae ne ce] 38 (0, 0))) (hI : w.heap[BI]? = some (.cells #[.slice ai ni ci] 27 (0, 0))) (hj : w.heap[bi]? = some (.cells #[.int .i64 j] 3 (0, 0)))
    (hp : IntsIn w.heap.size w ae ne ps) (hcp : ne ≤ ce) (hcap : ce ≤ 9223372036854775807) (hi : ListAt shRow (Under w.heap.size) w ai ni is) (hX : is[j]? = some X) (hX6 : X.length ≤ 1048576) (hd : IntsIn w.heap.size w ad nd ds) (hg : LaidE w) :
    Calls Tryz.prog 158 #[.slice ad nd cd, .pointer (some ⟨bo, 0, none⟩), .pointer (some ⟨BI, 0, none⟩), .pointer (some ⟨bi, 0, none⟩)] w (RowsB w (bwN k i o ps X ds) (bwG k i o ps X ds) (bwB k i o ps X ds)) := by
  obtain ⟨⟨c0, c1, c2, c3⟩, -⟩ := cells4 ho
  have e0 := box1 hI
  have e1 : w.cell? ⟨bi, 0, none⟩ = some (.int .i64 j) := by rw [cell_of_row _ _ _ _ _ _ hj]; rfl
  have hjn : j < ni := by rw [← hi.1]; exact (List.getElem?_eq_some_iff.1 hX).1
  obtain ⟨b2, o2, es2, rfl, hbB2, hr2, hs2⟩ := hi.2 j X hX
  obtain ⟨ay, ny, cy, rfl, -, -, my⟩ := shRow_reads.1 hs2
  rw [shRow_size, Nat.mul_one] at hr2
  have r0 := hr2 0 _ rfl
  simp only [Nat.add_zero] at r0
  have hjj : (j : Int) < (ni : Int) := by omega
  have hdw : Below w.heap.size w w.drew := (Below.refl w.heap.size w).drew
  have hC := implOpBackward_any w.drew k i o ae ne ce ps ay ny cy X ad nd cd ds ((hp.below hdw (Nat.le_refl _)).le hdw.size) hcp hcap (((my.ints (by have := my.1; omega)).below hdw (Nat.le_refl _)).le hdw.size) ((hd.below hdw (Nat.le_refl _)).le hdw.size) (hg.below hg.lt hdw)
  obtain ⟨N1, hN1⟩ : ∃ v, bwN k i o ps X ds = v := ⟨_, rfl⟩
  obtain ⟨N2, hN2⟩ : ∃ v, bwG k i o ps X ds = v := ⟨_, rfl⟩
  obtain ⟨N3, hN3⟩ : ∃ v, bwB k i o ps X ds = v := ⟨_, rfl⟩
  rw [hN1, hN2, hN3] at hC ⊢
  have HC := Lib.hid hC
  clear hC hN1 hN2 hN3 hdw
  clear ho hI hj hp hi hX hX6 hd hg hr2 hs2 my hbB2
  go_enter Tryz.func158, Tryz.ntmps158
  go_upto_region 1 with fail
  go_cut [5, 6, 7] (fun d u s wx => s = .bool N3 ∧ Row w.heap.size wx d N1 ∧ Row w.heap.size wx u N2 ∧ ApartV d u ∧ Below w.heap.size w wx)
  case first =>
    go_region_law (first
      | (go_simp; go_at_call 159; (with_reducible refine HC.out.mono ?_); rintro e wt ⟨v, u, rfl, hr, hr', hap, hb⟩; have HR := Lib.hid hr; have HR' := Lib.hid hr'; have HAP := Lib.hid hap; have HBT := Lib.hid hb; clear hr hr' hap hb))
    all_goals
      go_wp2_with fail
      go_meet
      case rel => exact ⟨rfl, HR.out, HR'.out, HAP.out, ((Below.refl w.heap.size w).drew).trans HBT.out⟩
  case rest =>
    obtain ⟨rfl, hr, hr', hap, hb⟩ := hcut
    have HR := Lib.hid hr
    have HR' := Lib.hid hr'
    have HAP := Lib.hid hap
    have HB := Lib.hid hb
    clear hr hr' hap hb HC
    go_wp2_with fail
    go_ret3
    exact ⟨_, _, rfl, HR.out, HR'.out, HAP.out, HB.out⟩
end Go.Proofs.YtpnifgpmleaohaaGreatDoor

end
