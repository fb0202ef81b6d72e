import Derived.Test.YtpnifgpmleaohaaGreatDoorJoin19
import Derived.Test.YtpnifgpmleaohaaGreatDoorJoin17
import Derived.Test.YtpnifgpmleaohaaGreatDoorJoin18
/-! YtpnifgpmleaohaaGreatDoorZOpJ -/
section

namespace Go.Proofs.YtpnifgpmleaohaaGreatDoor
open Go.RowKit
set_option linter.unusedVariables false

theorem aheadDense_method (i o : Int) (a : Option Addr) (n cp : Nat) (w : World) : (method 221 255 (.agg #[.int .i64 o, .int .i64 i, .slice a n cp]) "loop.example/g01407/impl.ahead").run Tryz.prog w = .ok (279, .agg #[.int .i64 o, .int .i64 i, .slice a n cp]) w := by kernel_rfl
set_option maxRecDepth 100000 in
theorem implForwardDense (w : World) (k i o : Int) (a : Option Addr) (n cp : Nat) (ps : List Int) (a2 : Option Addr) (n2 c4 : Nat) (xs : List Int) (h1 : IntsIn w.heap.size w a n ps) (hcp : n ≤ cp) (hcap : cp ≤ 9223372036854775807) (h2 : IntsIn w.heap.size w a2 n2 xs) (hg : LaidE w) (hk : k = 1) (hf : fwOk k i o ps xs = true) :
    Calls Tryz.prog 150 #[.agg #[.int .i64 k, .int .i64 i, .int .i64 o, .slice a n cp], .slice a2 n2 c4] w (RowB w (fwN k i o ps xs) (fwB k i o ps xs)) := by
  have hlt := hg.lt
  have hal : Below w.heap.size w (w.alloc (.cells #[.int .i64 k, .int .i64 i, .int .i64 o, .slice a n cp] 38 (0, 0))) := (Below.refl _ _).alloc (Nat.le_refl _) _
  have hb0 := heap_alloc_new w (.cells #[.int .i64 k, .int .i64 i, .int .i64 o, .slice a n cp] 38 (0, 0))
  have hs0 : w.heap.size < (w.alloc (.cells #[.int .i64 k, .int .i64 i, .int .i64 o, .slice a n cp] 38 (0, 0))).heap.size := by simp
  have HK := Lib.hid (implOpOk_any (w.alloc (.cells #[.int .i64 k, .int .i64 i, .int .i64 o, .slice a n cp] 38 (0, 0))) k i o a n cp ps ((h1.below hal (Nat.le_refl _)).le hal.size) hcp hcap)
  have HV := Lib.hid fun (w1 : World) (hb1 : Below w.heap.size w w1) => implVecOk_any w1 a2 n2 c4 xs ((h2.below hb1 (Nat.le_refl _)).le hb1.size)
  have hlx := h2.len
  obtain ⟨e1, e2⟩ := fwN_is hf
  rw [e1, e2]
  unfold fwOk at hf
  simp only [Bool.and_eq_true, decide_eq_true_eq] at hf
  obtain ⟨⟨f1, f2⟩, f3⟩ := hf
  have hn4 : k = 4 → 1 ≤ n := fun hk4 => by
    have h := f1
    unfold opOkB at h
    simp only [Bool.and_eq_true, decide_eq_true_eq] at h
    have hl := h.1.2
    rw [h1.len] at hl
    unfold opSz at hl
    rw [h.1.1.1.1.2, h.1.1.1.2, hk4] at hl
    simp at hl
    omega
  rw [f1] at HK
  rw [Hid] at HV
  simp only [f2] at HV
  replace HV := Lib.hid HV
  rw [hlx] at f3
  have hne : ((n2 : Int) != i) = false := by simp [f3]
  have HB0 := Lib.hid hb0
  have HA := Lib.hid hal
  have H1 := Lib.hid h1
  have H2 := Lib.hid h2
  have HG := Lib.hid hg
  subst hk
  clear hn4
  clear h1 h2 hg hal hb0 e1 e2 f1 f2 hlx
  go_enter Tryz.func150, Tryz.ntmps150
  go_wp2_with fail
  refine HK.out.mono ?_
  rintro e w1 ⟨rfl, hb1⟩
  have hw1 := HA.out.trans (hb1.mono HA.out.size)
  have hbx := (hb1.block w.heap.size hs0).trans HB0.out
  obtain ⟨c0, c1, c2, c3⟩ := cells4 hbx
  have HW1 := Lib.hid hw1
  clear hb1 hw1 hbx
  go_wp2_with fail
  refine (HV.out w1 HW1.out).mono ?_
  rintro e w2 ⟨rfl, rfl⟩
  go_wp2_with fail
  refine (opOf_1 w1 i o a n cp).mono ?_
  rintro e w3 ⟨rfl, hb3⟩
  have hw3 := HW1.out.trans (hb3.mono HW1.out.size)
  have I1 := (H1.out.below hw3 (Nat.le_refl _)).le hw3.size
  have I2 := (H2.out.below hw3 (Nat.le_refl _)).le hw3.size
  have IG := HG.out.below hlt hw3
  have HC := Lib.hid (implAheadDense w3 1 i o a n cp ps a2 n2 c4 xs I1 hcp hcap I2 IG)
  have HW3 := Lib.hid hw3
  have hm := aheadDense_method i o a n cp
  clear hb3 hw3 I1 I2 IG c0 c1 c2 c3
  go_wp2_with fail
  refine HC.out.mono ?_
  rintro e w4 ⟨v, rfl, hr, hb4⟩
  go_wp2_with fail
  go_ret2
  exact ⟨v, by simp, hr.le HW3.out.size, HW3.out.trans (hb4.mono HW3.out.size)⟩
theorem aheadBias_method (i o : Int) (a : Option Addr) (n cp : Nat) (w : World) : (method 221 257 (.agg #[.slice a n cp]) "loop.example/g01407/impl.ahead").run Tryz.prog w = .ok (290, .agg #[.slice a n cp]) w := by kernel_rfl
set_option maxRecDepth 100000 in
theorem implForwardBias (w : World) (k i o : Int) (a : Option Addr) (n cp : Nat) (ps : List Int) (a2 : Option Addr) (n2 c4 : Nat) (xs : List Int) (h1 : IntsIn w.heap.size w a n ps) (hcp : n ≤ cp) (hcap : cp ≤ 9223372036854775807) (h2 : IntsIn w.heap.size w a2 n2 xs) (hg : LaidE w) (hk : k = 2) (hf : fwOk k i o ps xs = true) :
    Calls Tryz.prog 150 #[.agg #[.int .i64 k, .int .i64 i, .int .i64 o, .slice a n cp], .slice a2 n2 c4] w (RowB w (fwN k i o ps xs) (fwB k i o ps xs)) := by
  have hlt := hg.lt
  have hal : Below w.heap.size w (w.alloc (.cells #[.int .i64 k, .int .i64 i, .int .i64 o, .slice a n cp] 38 (0, 0))) := (Below.refl _ _).alloc (Nat.le_refl _) _
  have hb0 := heap_alloc_new w (.cells #[.int .i64 k, .int .i64 i, .int .i64 o, .slice a n cp] 38 (0, 0))
  have hs0 : w.heap.size < (w.alloc (.cells #[.int .i64 k, .int .i64 i, .int .i64 o, .slice a n cp] 38 (0, 0))).heap.size := by simp
  have HK := Lib.hid (implOpOk_any (w.alloc (.cells #[.int .i64 k, .int .i64 i, .int .i64 o, .slice a n cp] 38 (0, 0))) k i o a n cp ps ((h1.below hal (Nat.le_refl _)).le hal.size) hcp hcap)
  have HV := Lib.hid fun (w1 : World) (hb1 : Below w.heap.size w w1) => implVecOk_any w1 a2 n2 c4 xs ((h2.below hb1 (Nat.le_refl _)).le hb1.size)
  have hlx := h2.len
  obtain ⟨e1, e2⟩ := fwN_is hf
  rw [e1, e2]
  unfold fwOk at hf
  simp only [Bool.and_eq_true, decide_eq_true_eq] at hf
  obtain ⟨⟨f1, f2⟩, f3⟩ := hf
  have hn4 : k = 4 → 1 ≤ n := fun hk4 => by
    have h := f1
    unfold opOkB at h
    simp only [Bool.and_eq_true, decide_eq_true_eq] at h
    have hl := h.1.2
    rw [h1.len] at hl
    unfold opSz at hl
    rw [h.1.1.1.1.2, h.1.1.1.2, hk4] at hl
    simp at hl
    omega
  rw [f1] at HK
  rw [Hid] at HV
  simp only [f2] at HV
  replace HV := Lib.hid HV
  rw [hlx] at f3
  have hne : ((n2 : Int) != i) = false := by simp [f3]
  have HB0 := Lib.hid hb0
  have HA := Lib.hid hal
  have H1 := Lib.hid h1
  have H2 := Lib.hid h2
  have HG := Lib.hid hg
  subst hk
  clear hn4
  clear h1 h2 hg hal hb0 e1 e2 f1 f2 hlx
  go_enter Tryz.func150, Tryz.ntmps150
  go_wp2_with fail
  refine HK.out.mono ?_
  rintro e w1 ⟨rfl, hb1⟩
  have hw1 := HA.out.trans (hb1.mono HA.out.size)
  have hbx := (hb1.block w.heap.size hs0).trans HB0.out
  obtain ⟨c0, c1, c2, c3⟩ := cells4 hbx
  have HW1 := Lib.hid hw1
  clear hb1 hw1 hbx
  go_wp2_with fail
  refine (HV.out w1 HW1.out).mono ?_
  rintro e w2 ⟨rfl, rfl⟩
  go_wp2_with fail
  refine (opOf_2 w1 i o a n cp).mono ?_
  rintro e w3 ⟨rfl, hb3⟩
  have hw3 := HW1.out.trans (hb3.mono HW1.out.size)
  have I1 := (H1.out.below hw3 (Nat.le_refl _)).le hw3.size
  have I2 := (H2.out.below hw3 (Nat.le_refl _)).le hw3.size
  have IG := HG.out.below hlt hw3
  have HC := Lib.hid (implAheadBias w3 2 i o a n cp ps a2 n2 c4 xs I1 hcp hcap I2 IG)
  have HW3 := Lib.hid hw3
  have hm := aheadBias_method i o a n cp
  clear hb3 hw3 I1 I2 IG c0 c1 c2 c3
  go_wp2_with fail
  refine HC.out.mono ?_
  rintro e w4 ⟨v, rfl, hr, hb4⟩
  go_wp2_with fail
  go_ret2
  exact ⟨v, by simp, hr.le HW3.out.size, HW3.out.trans (hb4.mono HW3.out.size)⟩
theorem aheadRelu_method (i o : Int) (a : Option Addr) (n cp : Nat) (w : World) : (method 221 259 (.agg #[]) "loop.example/g01407/impl.ahead").run Tryz.prog w = .ok (293, .agg #[]) w := by kernel_rfl
set_option maxRecDepth 100000 in
theorem implForwardRelu (w : World) (k i o : Int) (a : Option Addr) (n cp : Nat) (ps : List Int) (a2 : Option Addr) (n2 c4 : Nat) (xs : List Int) (h1 : IntsIn w.heap.size w a n ps) (hcp : n ≤ cp) (hcap : cp ≤ 9223372036854775807) (h2 : IntsIn w.heap.size w a2 n2 xs) (hg : LaidE w) (hk : k = 3) (hf : fwOk k i o ps xs = true) :
    Calls Tryz.prog 150 #[.agg #[.int .i64 k, .int .i64 i, .int .i64 o, .slice a n cp], .slice a2 n2 c4] w (RowB w (fwN k i o ps xs) (fwB k i o ps xs)) := by
  have hlt := hg.lt
  have hal : Below w.heap.size w (w.alloc (.cells #[.int .i64 k, .int .i64 i, .int .i64 o, .slice a n cp] 38 (0, 0))) := (Below.refl _ _).alloc (Nat.le_refl _) _
  have hb0 := heap_alloc_new w (.cells #[.int .i64 k, .int .i64 i, .int .i64 o, .slice a n cp] 38 (0, 0))
  have hs0 : w.heap.size < (w.alloc (.cells #[.int .i64 k, .int .i64 i, .int .i64 o, .slice a n cp] 38 (0, 0))).heap.size := by simp
  have HK := Lib.hid (implOpOk_any (w.alloc (.cells #[.int .i64 k, .int .i64 i, .int .i64 o, .slice a n cp] 38 (0, 0))) k i o a n cp ps ((h1.below hal (Nat.le_refl _)).le hal.size) hcp hcap)
  have HV := Lib.hid fun (w1 : World) (hb1 : Below w.heap.size w w1) => implVecOk_any w1 a2 n2 c4 xs ((h2.below hb1 (Nat.le_refl _)).le hb1.size)
  have hlx := h2.len
  obtain ⟨e1, e2⟩ := fwN_is hf
  rw [e1, e2]
  unfold fwOk at hf
  simp only [Bool.and_eq_true, decide_eq_true_eq] at hf
  obtain ⟨⟨f1, f2⟩, f3⟩ := hf
  have hn4 : k = 4 → 1 ≤ n := fun hk4 => by
    have h := f1
    unfold opOkB at h
    simp only [Bool.and_eq_true, decide_eq_true_eq] at h
    have hl := h.1.2
    rw [h1.len] at hl
    unfold opSz at hl
    rw [h.1.1.1.1.2, h.1.1.1.2, hk4] at hl
    simp at hl
    omega
  rw [f1] at HK
  rw [Hid] at HV
  simp only [f2] at HV
  replace HV := Lib.hid HV
  rw [hlx] at f3
  have hne : ((n2 : Int) != i) = false := by simp [f3]
  have HB0 := Lib.hid hb0
  have HA := Lib.hid hal
  have H1 := Lib.hid h1
  have H2 := Lib.hid h2
  have HG := Lib.hid hg
  subst hk
  clear hn4
  clear h1 h2 hg hal hb0 e1 e2 f1 f2 hlx
  go_enter Tryz.func150, Tryz.ntmps150
  go_wp2_with fail
  refine HK.out.mono ?_
  rintro e w1 ⟨rfl, hb1⟩
  have hw1 := HA.out.trans (hb1.mono HA.out.size)
  have hbx := (hb1.block w.heap.size hs0).trans HB0.out
  obtain ⟨c0, c1, c2, c3⟩ := cells4 hbx
  have HW1 := Lib.hid hw1
  clear hb1 hw1 hbx
  go_wp2_with fail
  refine (HV.out w1 HW1.out).mono ?_
  rintro e w2 ⟨rfl, rfl⟩
  go_wp2_with fail
  refine (opOf_3 w1 i o a n cp).mono ?_
  rintro e w3 ⟨rfl, hb3⟩
  have hw3 := HW1.out.trans (hb3.mono HW1.out.size)
  have I1 := (H1.out.below hw3 (Nat.le_refl _)).le hw3.size
  have I2 := (H2.out.below hw3 (Nat.le_refl _)).le hw3.size
  have IG := HG.out.below hlt hw3
  have HC := Lib.hid (implAheadRelu w3 3 i o a n cp ps a2 n2 c4 xs I1 hcp hcap I2 IG #[] rfl)
  have HW3 := Lib.hid hw3
  have hm := aheadRelu_method i o a n cp
  clear hb3 hw3 I1 I2 IG c0 c1 c2 c3
  go_wp2_with fail
  refine HC.out.mono ?_
  rintro e w4 ⟨v, rfl, hr, hb4⟩
  go_wp2_with fail
  go_ret2
  exact ⟨v, by simp, hr.le HW3.out.size, HW3.out.trans (hb4.mono HW3.out.size)⟩
theorem aheadScale_method (i o : Int) (a : Option Addr) (n cp : Nat) (w : World) : (method 221 260 (.agg #[.slice a n cp]) "loop.example/g01407/impl.ahead").run Tryz.prog w = .ok (300, .agg #[.slice a n cp]) w := by kernel_rfl
set_option maxRecDepth 100000 in
theorem implForwardScale (w : World) (k i o : Int) (a : Option Addr) (n cp : Nat) (ps : List Int) (a2 : Option Addr) (n2 c4 : Nat) (xs : List Int) (h1 : IntsIn w.heap.size w a n ps) (hcp : n ≤ cp) (hcap : cp ≤ 9223372036854775807) (h2 : IntsIn w.heap.size w a2 n2 xs) (hg : LaidE w) (hk : k = 4) (hf : fwOk k i o ps xs = true) :
    Calls Tryz.prog 150 #[.agg #[.int .i64 k, .int .i64 i, .int .i64 o, .slice a n cp], .slice a2 n2 c4] w (RowB w (fwN k i o ps xs) (fwB k i o ps xs)) := by
  have hlt := hg.lt
  have hal : Below w.heap.size w (w.alloc (.cells #[.int .i64 k, .int .i64 i, .int .i64 o, .slice a n cp] 38 (0, 0))) := (Below.refl _ _).alloc (Nat.le_refl _) _
  have hb0 := heap_alloc_new w (.cells #[.int .i64 k, .int .i64 i, .int .i64 o, .slice a n cp] 38 (0, 0))
  have hs0 : w.heap.size < (w.alloc (.cells #[.int .i64 k, .int .i64 i, .int .i64 o, .slice a n cp] 38 (0, 0))).heap.size := by simp
  have HK := Lib.hid (implOpOk_any (w.alloc (.cells #[.int .i64 k, .int .i64 i, .int .i64 o, .slice a n cp] 38 (0, 0))) k i o a n cp ps ((h1.below hal (Nat.le_refl _)).le hal.size) hcp hcap)
  have HV := Lib.hid fun (w1 : World) (hb1 : Below w.heap.size w w1) => implVecOk_any w1 a2 n2 c4 xs ((h2.below hb1 (Nat.le_refl _)).le hb1.size)
  have hlx := h2.len
  obtain ⟨e1, e2⟩ := fwN_is hf
  rw [e1, e2]
  unfold fwOk at hf
  simp only [Bool.and_eq_true, decide_eq_true_eq] at hf
  obtain ⟨⟨f1, f2⟩, f3⟩ := hf
  have hn4 : k = 4 → 1 ≤ n := fun hk4 => by
    have h := f1
    unfold opOkB at h
    simp only [Bool.and_eq_true, decide_eq_true_eq] at h
    have hl := h.1.2
    rw [h1.len] at hl
    unfold opSz at hl
    rw [h.1.1.1.1.2, h.1.1.1.2, hk4] at hl
    simp at hl
    omega
  rw [f1] at HK
  rw [Hid] at HV
  simp only [f2] at HV
  replace HV := Lib.hid HV
  rw [hlx] at f3
  have hne : ((n2 : Int) != i) = false := by simp [f3]
  have HB0 := Lib.hid hb0
  have HA := Lib.hid hal
  have H1 := Lib.hid h1
  have H2 := Lib.hid h2
  have HG := Lib.hid hg
  subst hk
  have hn5 := hn4 rfl
  clear hn4
  clear h1 h2 hg hal hb0 e1 e2 f1 f2 hlx
  go_enter Tryz.func150, Tryz.ntmps150
  go_wp2_with fail
  refine HK.out.mono ?_
  rintro e w1 ⟨rfl, hb1⟩
  have hw1 := HA.out.trans (hb1.mono HA.out.size)
  have hbx := (hb1.block w.heap.size hs0).trans HB0.out
  obtain ⟨c0, c1, c2, c3⟩ := cells4 hbx
  have HW1 := Lib.hid hw1
  clear hb1 hw1 hbx
  go_wp2_with fail
  refine (HV.out w1 HW1.out).mono ?_
  rintro e w2 ⟨rfl, rfl⟩
  go_wp2_with fail
  refine (opOf_4 w1 i o a n cp).mono ?_
  rintro e w3 ⟨rfl, hb3⟩
  have hw3 := HW1.out.trans (hb3.mono HW1.out.size)
  have I1 := (H1.out.below hw3 (Nat.le_refl _)).le hw3.size
  have I2 := (H2.out.below hw3 (Nat.le_refl _)).le hw3.size
  have IG := HG.out.below hlt hw3
  have HC := Lib.hid (implAheadScale w3 4 i o a n cp ps a2 n2 c4 xs I1 hcp hcap I2 IG hn5)
  have HW3 := Lib.hid hw3
  have hm := aheadScale_method i o a n cp
  clear hb3 hw3 I1 I2 IG c0 c1 c2 c3
  go_wp2_with fail
  refine HC.out.mono ?_
  rintro e w4 ⟨v, rfl, hr, hb4⟩
  go_wp2_with fail
  go_ret2
  exact ⟨v, by simp, hr.le HW3.out.size, HW3.out.trans (hb4.mono HW3.out.size)⟩
theorem aheadRes_method (i o : Int) (a : Option Addr) (n cp : Nat) (w : World) : (method 221 262 (.agg #[.int .i64 o, .int .i64 i, .slice a n cp]) "loop.example/g01407/impl.ahead").run Tryz.prog w = .ok (302, .agg #[.int .i64 o, .int .i64 i, .slice a n cp]) w := by kernel_rfl
set_option maxRecDepth 100000 in
theorem implForwardRes (w : World) (k i o : Int) (a : Option Addr) (n cp : Nat) (ps : List Int) (a2 : Option Addr) (n2 c4 : Nat) (xs : List Int) (h1 : IntsIn w.heap.size w a n ps) (hcp : n ≤ cp) (hcap : cp ≤ 9223372036854775807) (h2 : IntsIn w.heap.size w a2 n2 xs) (hg : LaidE w) (hk : k = 5) (hf : fwOk k i o ps xs = true) :
    Calls Tryz.prog 150 #[.agg #[.int .i64 k, .int .i64 i, .int .i64 o, .slice a n cp], .slice a2 n2 c4] w (RowB w (fwN k i o ps xs) (fwB k i o ps xs)) := by
  have hlt := hg.lt
  have hal : Below w.heap.size w (w.alloc (.cells #[.int .i64 k, .int .i64 i, .int .i64 o, .slice a n cp] 38 (0, 0))) := (Below.refl _ _).alloc (Nat.le_refl _) _
  have hb0 := heap_alloc_new w (.cells #[.int .i64 k, .int .i64 i, .int .i64 o, .slice a n cp] 38 (0, 0))
  have hs0 : w.heap.size < (w.alloc (.cells #[.int .i64 k, .int .i64 i, .int .i64 o, .slice a n cp] 38 (0, 0))).heap.size := by simp
  have HK := Lib.hid (implOpOk_any (w.alloc (.cells #[.int .i64 k, .int .i64 i, .int .i64 o, .slice a n cp] 38 (0, 0))) k i o a n cp ps ((h1.below hal (Nat.le_refl _)).le hal.size) hcp hcap)
  have HV := Lib.hid fun (w1 : World) (hb1 : Below w.heap.size w w1) => implVecOk_any w1 a2 n2 c4 xs ((h2.below hb1 (Nat.le_refl _)).le hb1.size)
  have hlx := h2.len
  obtain ⟨e1, e2⟩ := fwN_is hf
  rw [e1, e2]
  unfold fwOk at hf
  simp only [Bool.and_eq_true, decide_eq_true_eq] at hf
  obtain ⟨⟨f1, f2⟩, f3⟩ := hf
  have hn4 : k = 4 → 1 ≤ n := fun hk4 => by
    have h := f1
    unfold opOkB at h
    simp only [Bool.and_eq_true, decide_eq_true_eq] at h
    have hl := h.1.2
    rw [h1.len] at hl
    unfold opSz at hl
    rw [h.1.1.1.1.2, h.1.1.1.2, hk4] at hl
    simp at hl
    omega
  rw [f1] at HK
  rw [Hid] at HV
  simp only [f2] at HV
  replace HV := Lib.hid HV
  rw [hlx] at f3
  have hne : ((n2 : Int) != i) = false := by simp [f3]
  have HB0 := Lib.hid hb0
  have HA := Lib.hid hal
  have H1 := Lib.hid h1
  have H2 := Lib.hid h2
  have HG := Lib.hid hg
  subst hk
  clear hn4
  clear h1 h2 hg hal hb0 e1 e2 f1 f2 hlx
  go_enter Tryz.func150, Tryz.ntmps150
  go_wp2_with fail
  refine HK.out.mono ?_
  rintro e w1 ⟨rfl, hb1⟩
  have hw1 := HA.out.trans (hb1.mono HA.out.size)
  have hbx := (hb1.block w.heap.size hs0).trans HB0.out
  obtain ⟨c0, c1, c2, c3⟩ := cells4 hbx
  have HW1 := Lib.hid hw1
  clear hb1 hw1 hbx
  go_wp2_with fail
  refine (HV.out w1 HW1.out).mono ?_
  rintro e w2 ⟨rfl, rfl⟩
  go_wp2_with fail
  refine (opOf_5 w1 i o a n cp).mono ?_
  rintro e w3 ⟨rfl, hb3⟩
  have hw3 := HW1.out.trans (hb3.mono HW1.out.size)
  have I1 := (H1.out.below hw3 (Nat.le_refl _)).le hw3.size
  have I2 := (H2.out.below hw3 (Nat.le_refl _)).le hw3.size
  have IG := HG.out.below hlt hw3
  have HC := Lib.hid (implAheadRes w3 5 i o a n cp ps a2 n2 c4 xs I1 hcp hcap I2 IG)
  have HW3 := Lib.hid hw3
  have hm := aheadRes_method i o a n cp
  clear hb3 hw3 I1 I2 IG c0 c1 c2 c3
  go_wp2_with fail
  refine HC.out.mono ?_
  rintro e w4 ⟨v, rfl, hr, hb4⟩
  go_wp2_with fail
  go_ret2
  exact ⟨v, by simp, hr.le HW3.out.size, HW3.out.trans (hb4.mono HW3.out.size)⟩
theorem fwOk_kinds {k i o : Int} {ps xs : List Int} (h : fwOk k i o ps xs = true) : k = 1 ∨ k = 2 ∨ k = 3 ∨ k = 4 ∨ k = 5 := by
  unfold fwOk opOkB at h
  simp only [Bool.and_eq_true] at h
  have := inB_has h.1.1.1.1.1.1.1
  omega
set_option maxRecDepth 100000 in
theorem implOpForward_any (w : World) (k i o : Int) (a : Option Addr) (n cp : Nat) (ps : List Int) (a2 : Option Addr) (n2 c4 : Nat) (xs : List Int) (h1 : IntsIn w.heap.size w a n ps) (hcp : n ≤ cp) (hcap : cp ≤ 9223372036854775807) (h2 : IntsIn w.heap.size w a2 n2 xs) (hg : LaidE w) :
    Calls Tryz.prog 150 #[.agg #[.int .i64 k, .int .i64 i, .int .i64 o, .slice a n cp], .slice a2 n2 c4] w (RowB w (fwN k i o ps xs) (fwB k i o ps xs)) := by
  cases hf : fwOk k i o ps xs with
  | true =>
    rcases fwOk_kinds hf with hk | hk | hk | hk | hk
    · exact implForwardDense w k i o a n cp ps a2 n2 c4 xs h1 hcp hcap h2 hg hk hf
    · exact implForwardBias w k i o a n cp ps a2 n2 c4 xs h1 hcp hcap h2 hg hk hf
    · exact implForwardRelu w k i o a n cp ps a2 n2 c4 xs h1 hcp hcap h2 hg hk hf
    · exact implForwardScale w k i o a n cp ps a2 n2 c4 xs h1 hcp hcap h2 hg hk hf
    · exact implForwardRes w k i o a n cp ps a2 n2 c4 xs h1 hcp hcap h2 hg hk hf
  | false =>
    have hlt := hg.lt
    have hal : Below w.heap.size w (w.alloc (.cells #[.int .i64 k, .int .i64 i, .int .i64 o, .slice a n cp] 38 (0, 0))) := (Below.refl _ _).alloc (Nat.le_refl _) _
    have hb0 := heap_alloc_new w (.cells #[.int .i64 k, .int .i64 i, .int .i64 o, .slice a n cp] 38 (0, 0))
    have hs0 : w.heap.size < (w.alloc (.cells #[.int .i64 k, .int .i64 i, .int .i64 o, .slice a n cp] 38 (0, 0))).heap.size := by simp
    have HK := Lib.hid (implOpOk_any (w.alloc (.cells #[.int .i64 k, .int .i64 i, .int .i64 o, .slice a n cp] 38 (0, 0))) k i o a n cp ps ((h1.below hal (Nat.le_refl _)).le hal.size) hcp hcap)
    have HV := Lib.hid fun (w1 : World) (hb1 : Below w.heap.size w w1) => implVecOk_any w1 a2 n2 c4 xs ((h2.below hb1 (Nat.le_refl _)).le hb1.size)
    have hlx := h2.len
    rw [(fw_no hf).1, (fw_no hf).2]
    unfold fwOk at hf
    obtain ⟨p, hp⟩ : ∃ p, opOkB k i o ps = p := ⟨_, rfl⟩
    obtain ⟨q, hq⟩ : ∃ q, vecOkB xs = q := ⟨_, rfl⟩
    rw [hp, hq, hlx] at hf
    rw [hp] at HK
    rw [Hid] at HV
    simp only [hq] at HV
    replace HV := Lib.hid HV
    have HB0 := Lib.hid hb0
    have HA := Lib.hid hal
    clear h1 h2 hg hal hb0 hp hq hlx hlt
    cases p
    · go_enter Tryz.func150, Tryz.ntmps150
      go_wp2_with fail
      refine HK.out.mono ?_
      rintro e w1 ⟨rfl, hb1⟩
      have HW1 := Lib.hid (HA.out.trans (hb1.mono HA.out.size))
      clear hb1
      go_wp2_with fail
      go_ret2
      exact ⟨_, rfl, Row.nil _ _, HW1.out⟩
    · cases q
      · go_enter Tryz.func150, Tryz.ntmps150
        go_wp2_with fail
        refine HK.out.mono ?_
        rintro e w1 ⟨rfl, hb1⟩
        have HW1 := Lib.hid (HA.out.trans (hb1.mono HA.out.size))
        clear hb1
        go_wp2_with fail
        refine (HV.out w1 HW1.out).mono ?_
        rintro e w2 ⟨rfl, rfl⟩
        go_wp2_with fail
        go_ret2
        exact ⟨_, rfl, Row.nil _ _, HW1.out⟩
      · have hni : ¬ (n2 : Int) = i := by simpa using hf
        have hne : ((n2 : Int) != i) = true := by simpa using hni
        clear hf hni
        go_enter Tryz.func150, Tryz.ntmps150
        go_wp2_with fail
        refine HK.out.mono ?_
        rintro e w1 ⟨rfl, hb1⟩
        have HW1 := Lib.hid (HA.out.trans (hb1.mono HA.out.size))
        obtain ⟨c0, c1, c2, c3⟩ := cells4 ((hb1.block w.heap.size hs0).trans HB0.out)
        clear hb1
        go_wp2_with fail
        refine (HV.out w1 HW1.out).mono ?_
        rintro e w2 ⟨rfl, rfl⟩
        go_wp2_with fail
        go_ret2
        exact ⟨_, rfl, Row.nil _ _, HW1.out⟩
end Go.Proofs.YtpnifgpmleaohaaGreatDoor

end

/-! YtpnifgpmleaohaaGreatDoorZMatJ -/
section

namespace Go.Proofs.YtpnifgpmleaohaaGreatDoor
open Go.RowKit Go.Shelf
set_option linter.unusedVariables false
attribute [local go_sem] Oper.semAt_some

set_option maxRecDepth 100000 in
set_option maxHeartbeats 1600000 in
theorem implOuter_any (w : World) (a1 : Option Addr) (n1 c1 : Nat) (ds : List Int) (a2 : Option Addr) (n2 c2 : Nat) (xs : List Int) (h1 : IntsIn w.heap.size w a1 n1 ds) (h2 : IntsIn w.heap.size w a2 n2 xs) (hg : LaidE w) :
    Calls Tryz.prog 283 #[.slice a1 n1 c1, .slice a2 n2 c2] w (MatB w (outR ds xs) (outC ds xs) (outN ds xs) (outB ds xs)) := by
  obtain ⟨i0, hi, hz0, hz1, hz2⟩ := info_parts Tryz.infoI64
  have hal : Below w.heap.size w (w.alloc (.cells #[.int .i64 0, .int .i64 0, .slice none 0 0] 245 (0, 0))) := (Below.refl _ _).alloc (Nat.le_refl _) _
  have hbx := heap_alloc_new w (.cells #[.int .i64 0, .int .i64 0, .slice none 0 0] 245 (0, 0))
  have hsz : (w.alloc (.cells #[.int .i64 0, .int .i64 0, .slice none 0 0] 245 (0, 0))).heap.size = w.heap.size + 1 := by simp
  have l1 := h1.len
  have l2 := h2.len
  have HX := Lib.hid (h1.below hal (Nat.le_refl _))
  have HY := Lib.hid (h2.below hal (Nat.le_refl _))
  have HV1 := fun (w : World) (h : IntsIn w.heap.size w a1 n1 ds) => implVecOk_any w a1 n1 c1 ds h
  have HV2 := fun (w : World) (h : IntsIn w.heap.size w a2 n2 xs) => implVecOk_any w a2 n2 c2 xs h
  have hlt := hg.lt
  have HE := Lib.hid (hg.below hlt hal)
  have HA := Lib.hid hal
  have HB0 := Lib.hid hbx
  clear h1 h2 hal hbx hg
  unfold outR outC outN outB
  cases hv : vecOkB ds with
  | false =>
    have ho : bothB ds xs = false := by unfold bothB; rw [hv]; rfl
    rw [ho]
    rw [hv] at HV1
    replace HV1 := Lib.hid HV1
    clear hv ho HV2
    go_enter Tryz.func283, Tryz.ntmps283
    go_wp2_with fail
    generalize w.alloc (.cells #[.int .i64 0, .int .i64 0, .slice none 0 0] 245 (0, 0)) = wa at HX HY HA HB0 HE hsz ⊢
    refine (HV1.out _ (HX.out.le (by omega))).mono ?_
    rintro e w' ⟨rfl, rfl⟩
    obtain ⟨⟨d0, d1, d2⟩, f0, f1, f2⟩ := cells3 HB0.out
    go_wp2_with fail
    refine bodyPost_ret (results_row_tmp rfl _ _ w.heap.size 245 #[.int .i64 0, .int .i64 0, .slice none 0 0] (0, 0) _ rfl ?_ Tryz.underlying245 rfl (by kernel_rfl)) rfl ?_
    · exact store3 HB0.out _ _ _
    exact ⟨_, rfl, Row.nil _ _, ((HA.out.setCell (Nat.le_refl _) _).setCell (Nat.le_refl _) _).setCell (Nat.le_refl _) _⟩
  | true =>
    rw [hv] at HV1
    replace HV1 := Lib.hid HV1
    cases hu : vecOkB xs with
    | false =>
      have ho : bothB ds xs = false := by unfold bothB; rw [hv, hu]; rfl
      rw [ho]
      rw [hu] at HV2
      replace HV2 := Lib.hid HV2
      clear hv ho hu
      go_enter Tryz.func283, Tryz.ntmps283
      go_wp2_with fail
      generalize w.alloc (.cells #[.int .i64 0, .int .i64 0, .slice none 0 0] 245 (0, 0)) = wa at HX HY HA HB0 HE hsz ⊢
      refine (HV1.out _ (HX.out.le (by omega))).mono ?_
      rintro e w' ⟨rfl, rfl⟩
      go_wp2_with fail
      refine (HV2.out _ (HY.out.le (by omega))).mono ?_
      rintro e w' ⟨rfl, rfl⟩
      obtain ⟨⟨d0, d1, d2⟩, f0, f1, f2⟩ := cells3 HB0.out
      go_wp2_with fail
      refine bodyPost_ret (results_row_tmp rfl _ _ w.heap.size 245 #[.int .i64 0, .int .i64 0, .slice none 0 0] (0, 0) _ rfl ?_ Tryz.underlying245 rfl (by kernel_rfl)) rfl ?_
      · exact store3 HB0.out _ _ _
      exact ⟨_, rfl, Row.nil _ _, ((HA.out.setCell (Nat.le_refl _) _).setCell (Nat.le_refl _) _).setCell (Nat.le_refl _) _⟩
    | true =>
      have ho : bothB ds xs = true := by unfold bothB; rw [hv, hu]; rfl
      rw [ho, l1, l2]
      rw [hu] at HV2
      replace HV2 := Lib.hid HV2
      have hn6 := (vecOkB_has hv).2.1
      have hm6 := (vecOkB_has hu).2.1
      rw [l1] at hn6
      rw [l2] at hm6
      simp only [if_true, Bool.true_and]
      obtain ⟨F, hF⟩ : ∃ F : Nat → Nat → Int, (fun i k => mulN (ds.getD i 0) (xs.getD k 0)) = F := ⟨_, rfl⟩
      obtain ⟨G, hG⟩ : ∃ G : Nat → Nat → Bool, (fun i k => mulB (ds.getD i 0) (xs.getD k 0)) = G := ⟨_, rfl⟩
      rw [hF, hG]
      have GF := Lib.hid hF
      have GG := Lib.hid hG
      have hdk := (vecOkB_has hv).2.2
      rw [l1] at hdk
      have HDK := Lib.hid hdk
      have HVX := Lib.hid hu
      have hm1 := (vecOkB_has hu).1
      rw [l2] at hm1
      have HL2 := Lib.hid l2
      clear hdk
      clear hv ho hu l1 l2 hF hG
      go_enter Tryz.func283, Tryz.ntmps283
      go_wp2_with fail
      generalize w.alloc (.cells #[.int .i64 0, .int .i64 0, .slice none 0 0] 245 (0, 0)) = wa at HX HY HA HB0 HE hsz ⊢
      have hwa : w.heap.size < wa.heap.size := by omega
      clear hsz
      refine (HV1.out _ (HX.out.le (by omega))).mono ?_
      rintro e w' ⟨rfl, rfl⟩
      go_wp2_with fail
      refine (HV2.out _ (HY.out.le (by omega))).mono ?_
      rintro e w' ⟨rfl, rfl⟩
      go_wp2_with fail
      have hb := (Below.refl wa.heap.size wa).alloc (Nat.le_refl _) (.cells #[.int .i64 n1, .int .i64 n2, .slice none 0 0] 245 (0, 0))
      have hbx := heap_alloc_new wa (.cells #[.int .i64 n1, .int .i64 n2, .slice none 0 0] 245 (0, 0))
      have hs2 : wa.heap.size + 1 ≤ (wa.alloc (.cells #[.int .i64 n1, .int .i64 n2, .slice none 0 0] 245 (0, 0))).heap.size := by simp
      generalize wa.alloc (.cells #[.int .i64 n1, .int .i64 n2, .slice none 0 0] 245 (0, 0)) = wb at hb hbx hs2 ⊢
      have HBB := Lib.hid hb
      have HBX := Lib.hid hbx
      clear hb hbx
      go_loopw [7, 28] (fun o i wr => ∃ (j : Nat) (v : Value), j ≤ n1 ∧ i = .int .i64 j ∧ o = .bool (gridB G n2 j) ∧ Row (wa.heap.size + 1) wr v (gridK F n2 j) ∧ wr.heap[wa.heap.size]? = some (.cells #[.int .i64 n1, .int .i64 n2, v] 245 (0, 0)) ∧ Below wa.heap.size wa wr ∧ wa.heap.size + 1 ≤ wr.heap.size) (fun _ i _ => n1 - (intOf i).toNat)
      case atStart => exact ⟨0, .slice none 0 0, Nat.zero_le _, rfl, rfl, Row.nil _ _, HBX.out, HBB.out, hs2⟩
      case round =>
        obtain ⟨j, v, hj, rfl, rfl, hrow, hbx, hb, hs⟩ := hrel
        have HLEN := Lib.hid (gridK_length F n2 j)
        obtain ⟨a4, c4, rfl, -⟩ := hrow.form
        by_cases hlj : j < n1
        · have hz36 : j * n2 + n2 ≤ 36 := by
            have e1 : (j + 1) * n2 ≤ n1 * n2 := Nat.mul_le_mul_right n2 (by omega)
            have e2 := le36 hn6 hm6
            rw [Nat.succ_mul] at e1
            omega
          obtain ⟨b, o, rfl, hbB, hcell0⟩ := HX.out.cells j hlj
          obtain ⟨X, hX⟩ : ∃ X, X = ds.getD j 0 := ⟨_, rfl⟩
          rw [← hX] at hcell0
          have hcell := (hb.cell (p := ⟨b, o + j, none⟩) (by show b < _; omega)).trans hcell0
          have hok : okB X = true := by rw [hX]; exact HDK.out j hlj
          obtain ⟨es, eb⟩ := scale_row hok HVX.out
          rw [HL2.out] at es eb
          have eF : mapK (F j) n2 = scaleN X xs := by rw [es, ← GF.out, hX]
          have eG : anyK (G j) n2 = scaleB X xs := by rw [eb, ← GG.out, hX]
          have e2 : gridK F n2 (j + 1) = gridK F n2 j ++ scaleN X xs := by rw [gridK, eF]
          have e1 : gridB G n2 (j + 1) = (gridB G n2 j || scaleB X xs) := by rw [gridB, eG]
          have hsl : (scaleN X xs).length = n2 := by rw [es, mapK_length]
          obtain ⟨zs, hzs⟩ : ∃ zs, gridK F n2 j = zs := ⟨_, rfl⟩
          have hzl : zs.length = j * n2 := by rw [← hzs]; exact HLEN.out
          rw [hzs] at hrow e2 hbx
          obtain ⟨fl, hfl⟩ : ∃ fl, gridB G n2 j = fl := ⟨_, rfl⟩
          rw [hfl] at e1
          rw [hfl]
          obtain ⟨go, hgo⟩ : ∃ go, scaleB X xs = go := ⟨_, rfl⟩
          obtain ⟨ss, hss⟩ : ∃ ss, scaleN X xs = ss := ⟨_, rfl⟩
          have hlta := HA.out.size
          have hT := implVecScale_any X wr a2 n2 c2 xs (((HY.out.below hb (by omega)).le (by omega))) (HE.out.below (by omega) hb)
          rw [hgo, hss] at hT
          rw [hgo] at e1
          rw [hss] at e2 hsl
          have HT := Lib.hid hT
          have E1 := Lib.hid e1
          have E2 := Lib.hid e2
          have HR := Lib.hid hrow
          have HX0 := Lib.hid hbx
          have HB := Lib.hid hb
          have HSL := Lib.hid hsl
          rw [← hzl] at hz36
          clear hX hok es eb eF eG e1 e2 hcell0 hzs hfl hgo hss hT hrow hbx hb hzl hsl
          cases fl
          all_goals
            go_wp2_with fail
            refine HT.out.mono ?_
            rintro e w5 ⟨v5, rfl, hr5, hb5⟩
            obtain ⟨a5, c5, rfl, hi5⟩ := hr5.form' (n := n2) HSL (by omega)
            obtain ⟨b5, o5, rfl, -, -⟩ := hi5.cells 0 (by omega)
            have hx5 := (hb5.block wa.heap.size (by omega)).trans HX0.out
            have hs5 := hb5.size
            obtain ⟨⟨d0, d1, d2⟩, f0, f1, f2⟩ := cells3 hx5
            have HR5 := Lib.hid (HR.out.below hb5)
            have HN5 := Lib.hid (ints_news hi5)
            have HX5 := Lib.hid hx5
            have HB5 := Lib.hid (HB.out.trans (hb5.mono (by omega)))
            have hsl := HSL.out
            clear hr5 hb5 hi5 hx5
            go_wp2_with (at_builtin; refine wpList_append_lies _ rfl _ _ 28 rfl (wa.heap.size + 1) 3 i0 (.int .i64 0) 1 8 Tryz.underlying28 hi hz0 hz1 hz2 rfl (by decide) _ _ _ rfl HR5.out ⟨b5, o5, none⟩ n2 c5 (icells ss) rfl (by rw [icells_length]; omega) HN5.out (icells_one _) (by omega) (by unfold maxLen; omega) (by omega) (by omega) _ rfl ?_; intro g cap w4 hown4 hgrow4 _ _; have hb4 := below_of_grown HR5.out hgrow4 (by omega); have hx4 := (hb4.block wa.heap.size (Nat.lt_succ_self _)).trans HX5.out; have hs4 := hb4.size; clear d0 d1 d2 f0 f1 f2; obtain ⟨⟨p0, p1, p2⟩, r0, r1, r2⟩ := cells3 hx4; have HX4 := Lib.hid hx4; have HB4 := Lib.hid (HB5.out.trans (hb4.mono (by omega))); have HO4 := Lib.hid hown4; clear hown4 hgrow4 hb4 hx4)
            go_roundw
            case rel =>
              have hr : Row (wa.heap.size + 1) w4 (.slice (some ⟨g, 0, none⟩) (zs.length + n2) cap) (zs ++ ss) := by
                unfold Row
                rw [icells_append, List.length_append, hsl]
                exact HO4.out
              have hx := heap_setCell_same w4 wa.heap.size 2 _ _ (.slice (some ⟨g, 0, none⟩) (zs.length + n2) cap) HX4.out
              exact ⟨j + 1, .slice (some ⟨g, 0, none⟩) (zs.length + n2) cap, by omega, by go_num, by rw [E1.out]; simp, by rw [E2.out]; exact hr.setBelow (Nat.lt_succ_self _) _, hx, HB4.out.setCell (Nat.le_refl _) _, by simp; omega⟩
            case measure => simp [intOf]; omega
        · obtain rfl : j = n1 := by omega
          have HR := Lib.hid hrow
          have HX0 := Lib.hid hbx
          have HB := Lib.hid hb
          clear hrow hbx hb
          obtain ⟨⟨d0, d1, d2⟩, f0, f1, f2⟩ := cells3 HX0.out
          have hr0 := (HB.out.block w.heap.size (by omega)).trans HB0.out
          obtain ⟨⟨g0, g1, g2⟩, k0, k1, k2⟩ := cells3 hr0
          have HR0 := Lib.hid hr0
          clear hr0
          go_wp2_with fail
          refine bodyPost_ret (results_row_tmp rfl _ _ w.heap.size 245 #[.int .i64 j, .int .i64 n2, .slice a4 (gridK F n2 j).length c4] (0, 0) _ rfl ?_ Tryz.underlying245 rfl (by kernel_rfl)) rfl ?_
          · exact store3 HR0.out _ _ _
          exact ⟨_, rfl, (((HR.out.setBelow (by show w.heap.size < _; omega) _).setBelow (by show w.heap.size < _; omega) _).setBelow (by show w.heap.size < _; omega) _).le (by omega), (((HA.out.trans (HB.out.mono (by omega))).setCell (Nat.le_refl _) _).setCell (Nat.le_refl _) _).setCell (Nat.le_refl _) _⟩
end Go.Proofs.YtpnifgpmleaohaaGreatDoor

end
