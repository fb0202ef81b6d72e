/-
  The exact laws on tables of numbers.
-/
import Derived.Test.YtdmkbmpgcpggdaaMatTr
import Derived.Test.YtdmkbmpgcpggdaaSameD
import Derived.Test.YtdmkbmpgcpggdaaIntRow
import Derived.Deep.RegionLaw
import Derived.Deep.DeepCutAuto
namespace Go.Proofs.Ytdmkbmpgcpggdaa
open Go.RowKit
set_option linter.unusedVariables false

set_option maxRecDepth 100000 in
set_option maxHeartbeats 3200000 in
theorem lawMatOk_small (w : World) (r0 q0 : Int) (a0 : Option Addr) (n0 c0 : Nat) (xs0 : List Int) (h0 : IntsIn w.heap.size w a0 n0 xs0) :
    Calls Try.prog 10 #[.agg #[.int .i64 r0, .int .i64 q0, .slice a0 n0 c0]] w fun e w' => e = .returned (.bool true) ∧ Below w.heap.size w w' := by
  have hr0 := h0.room
  have L0 := h0.len
  have F0 := Lib.hid h0
  have S := fun (w : World) (A0 : Option Addr) (H0 : IntsIn w.heap.size w A0 n0 xs0) => specMatOk_any w r0 q0 A0 n0 n0 xs0 H0
  have P := fun (w : World) (A0 : Option Addr) (H0 : IntsIn w.heap.size w A0 n0 xs0) => implMatOk_any w r0 q0 A0 n0 n0 xs0 H0 (Nat.le_refl _) (by omega)
  obtain ⟨o, ho⟩ : ∃ o, matOkB r0 q0 xs0 = o := ⟨_, rfl⟩
  rw [ho] at S P
  clear ho
  replace S := Lib.hid S
  replace P := Lib.hid P
  replace L0 := Lib.hid L0
  have T := Lib.hid (Below.refl w.heap.size w)
  clear h0
  go_enter Try.func10, Try.ntmps10
  go_wp2_with fail
  have hb := (Below.refl w.heap.size w).alloc (Nat.le_refl _) (.cells #[.int .i64 r0, .int .i64 q0, .slice a0 n0 c0] 49 (0, 0))
  have hk := heap_alloc_new w (.cells #[.int .i64 r0, .int .i64 q0, .slice a0 n0 c0] 49 (0, 0))
  have ee2 : (w.alloc (.cells #[.int .i64 r0, .int .i64 q0, .slice a0 n0 c0] 49 (0, 0))).heap.size = w.heap.size + 1 := by simp
  have szw1 : w.heap.size < (w.alloc (.cells #[.int .i64 r0, .int .i64 q0, .slice a0 n0 c0] 49 (0, 0))).heap.size := by omega
  generalize w.alloc (.cells #[.int .i64 r0, .int .i64 q0, .slice a0 n0 c0] 49 (0, 0)) = w1 at hb hk szw1 ee2 ⊢
  have sw1 := hb.size
  replace F0 := Lib.hid (F0.out.below hb (by omega))
  replace T := Lib.hid (T.out.trans (hb.mono (by omega)))
  clear hb
  have AB0 := Lib.hid hk
  clear hk
  have ee := ee2
  clear ee2
  clear ee
  refine (szMat_ok _ r0 q0 a0 n0 c0 1048576 (by omega) (by omega)).mono ?_
  rintro e w2 ⟨rfl, hb⟩
  have sw2 := hb.size
  replace F0 := Lib.hid (F0.out.below hb (by omega))
  replace AB0 := Lib.hid ((hb.block (w.heap.size) (by omega)).trans AB0.out)
  replace T := Lib.hid (T.out.trans (hb.mono (by omega)))
  clear hb
  obtain ⟨⟨AB0x, AB0y, AB0z⟩, -⟩ := cells3 AB0.out
  go_wp2_with fail
  clear AB0x AB0y AB0z
  refine (toMat_any _ _ r0 q0 a0 n0 c0 xs0 F0.out (by omega)).mono ?_
  rintro e w3 ⟨gw3, rfl, hr, hb⟩
  have sw3 := hb.size
  replace F0 := Lib.hid (F0.out.below hb (by omega))
  replace AB0 := Lib.hid ((hb.block (w.heap.size) (by omega)).trans AB0.out)
  replace T := Lib.hid (T.out.trans (hb.mono (by omega)))
  clear hb
  have QRT0 : Hid (∀ k, Value.ownBlock (.slice (some ⟨gw3, 0, none⟩) n0 n0) = some k → w2.heap.size ≤ k ∧ k < w3.heap.size) := Lib.hid hr.lt
  have RT0 := Lib.hid hr
  clear hr
  go_wp2_with fail
  refine (S.out _ _ (RT0.out.ints L0.out)).mono ?_
  rintro e w4 ⟨rfl, hb⟩
  have sw4 := hb.size
  replace F0 := Lib.hid (F0.out.below hb (by omega))
  replace RT0 := Lib.hid (RT0.out.below hb)
  replace AB0 := Lib.hid ((hb.block (w.heap.size) (by omega)).trans AB0.out)
  replace T := Lib.hid (T.out.trans (hb.mono (by omega)))
  clear hb
  clear RT0
  clear QRT0
  obtain ⟨⟨AB0x, AB0y, AB0z⟩, -⟩ := cells3 AB0.out
  go_wp2_with fail
  clear AB0x AB0y AB0z
  refine (toMat_any _ _ r0 q0 a0 n0 c0 xs0 F0.out (by omega)).mono ?_
  rintro e w5 ⟨gw5, rfl, hr, hb⟩
  have sw5 := hb.size
  replace F0 := Lib.hid (F0.out.below hb (by omega))
  replace AB0 := Lib.hid ((hb.block (w.heap.size) (by omega)).trans AB0.out)
  replace T := Lib.hid (T.out.trans (hb.mono (by omega)))
  clear hb
  have QX0 : Hid (∀ k, Value.ownBlock (.slice (some ⟨gw5, 0, none⟩) n0 n0) = some k → w4.heap.size ≤ k ∧ k < w5.heap.size) := Lib.hid hr.lt
  have X0 := Lib.hid hr
  clear hr
  go_wp2_with fail
  have hb := (Below.refl w5.heap.size w5).alloc (Nat.le_refl _) (.cells #[.int .i64 r0, .int .i64 q0, .slice (some ⟨gw5, 0, none⟩) n0 n0] 52 (0, 0))
  have hk := heap_alloc_new w5 (.cells #[.int .i64 r0, .int .i64 q0, .slice (some ⟨gw5, 0, none⟩) n0 n0] 52 (0, 0))
  have szw6 : w5.heap.size < (w5.alloc (.cells #[.int .i64 r0, .int .i64 q0, .slice (some ⟨gw5, 0, none⟩) n0 n0] 52 (0, 0))).heap.size := by simp
  generalize w5.alloc (.cells #[.int .i64 r0, .int .i64 q0, .slice (some ⟨gw5, 0, none⟩) n0 n0] 52 (0, 0)) = w6 at hb hk szw6 ⊢
  have sw6 := hb.size
  replace F0 := Lib.hid (F0.out.below hb (by omega))
  replace X0 := Lib.hid (X0.out.below hb)
  replace AB0 := Lib.hid ((hb.block (w.heap.size) (by omega)).trans AB0.out)
  replace T := Lib.hid (T.out.trans (hb.mono (by omega)))
  clear hb
  have XB0 := Lib.hid hk
  clear hk
  refine (P.out _ _ (X0.out.ints L0.out)).mono ?_
  rintro e w7 ⟨rfl, hb⟩
  have sw7 := hb.size
  replace F0 := Lib.hid (F0.out.below hb (by omega))
  replace X0 := Lib.hid (X0.out.below hb)
  replace AB0 := Lib.hid ((hb.block (w.heap.size) (by omega)).trans AB0.out)
  replace XB0 := Lib.hid ((hb.block (w5.heap.size) (by omega)).trans XB0.out)
  replace T := Lib.hid (T.out.trans (hb.mono (by omega)))
  clear hb
  obtain ⟨⟨XB0x, XB0y, XB0z⟩, -⟩ := cells3 XB0.out
  obtain ⟨⟨AB0x, AB0y, AB0z⟩, -⟩ := cells3 AB0.out
  go_upto_region 10 with fail
  go_cut [26] (fun t wx => t = .bool false ∧ Below w7.heap.size w7 wx)
  case first =>
    have hdr : Below w7.heap.size w7 w7.drew := (Below.refl _ _).drew
    have fd : IntsIn w.heap.size w7.drew a0 n0 xs0 := F0.out.below hdr (by omega)
    have xd : IntsIn w7.heap.size w7.drew _ n0 xs0 := (X0.out.ints L0.out).below hdr (Nat.le_refl _)
    have FD := Lib.hid fd
    have XD := Lib.hid xd
    have DR := Lib.hid hdr
    have szd : w7.heap.size ≤ w7.drew.heap.size := hdr.size
    clear fd xd hdr
    have xb := XB0.out
    have XBD := Lib.hid xb
    clear xb
    go_region_law (first
      | (go_simp; go_at_call 38; (with_reducible refine (toMat_any (w.heap.size) _ r0 q0 a0 n0 c0 xs0 FD.out (by omega)).mono ?_); rintro e wt ⟨gt, rfl, hr, hb⟩; have xt := (XD.out.below hb (Nat.le_refl _)).le hb.size; have bt := DR.out.trans (hb.mono (Nat.le_refl _)); obtain ⟨⟨m0, m1, m2⟩, -⟩ := cells3 ((hb.block (w5.heap.size) (by show w5.heap.size < w7.heap.size; omega)).trans XBD.out); have it := hr.ints L0.out; have XT := Lib.hid xt; have BT := Lib.hid bt; have IT := Lib.hid it; clear hr hb xt bt it)
      | (go_simp; go_at_call 40; (with_reducible refine (eqMat_same _ r0 q0 _ n0 _ xs0 _ _ XT.out IT.out).mono ?_); rintro e wq ⟨rfl, hb⟩; have bq := BT.out.trans (hb.mono BT.out.size); have BQ := Lib.hid bq; clear hb bq))
    all_goals
      go_wp2_with fail
      go_meet
      case rel => exact ⟨rfl, BQ.out⟩
  case rest =>
    obtain ⟨rfl, hb⟩ := hcut
    clear XB0x XB0y XB0z AB0x AB0y AB0z
    obtain ⟨w8, rfl⟩ : ∃ x, x = wc := ⟨_, rfl⟩
    have sw8 := hb.size
    replace F0 := Lib.hid (F0.out.below hb (by omega))
    replace X0 := Lib.hid (X0.out.below hb)
    replace AB0 := Lib.hid ((hb.block (w.heap.size) (by omega)).trans AB0.out)
    replace XB0 := Lib.hid ((hb.block (w5.heap.size) (by omega)).trans XB0.out)
    replace T := Lib.hid (T.out.trans (hb.mono (by omega)))
    clear hb
    go_wp2_with fail
    go_ret
    exact ⟨rfl, T.out⟩
set_option maxRecDepth 100000 in
theorem lawMatOk_any (w : World) (r0 q0 : Int) (a0 : Option Addr) (n0 c0 : Nat) (m0 : n0 ≤ 9223372036854775807) (k0 : CameIn w a0 n0) :
    Calls Try.prog 10 #[.agg #[.int .i64 r0, .int .i64 q0, .slice a0 n0 c0]] w fun e w' => e = .returned (.bool true) ∧ Below w.heap.size w w' := by
  by_cases b0 : 1048576 < n0
  · clear k0
    have T := Lib.hid (Below.refl w.heap.size w)
    go_enter Try.func10, Try.ntmps10
    go_wp2_with fail
    have hb := (Below.refl w.heap.size w).alloc (Nat.le_refl _) (.cells #[.int .i64 r0, .int .i64 q0, .slice a0 n0 c0] 49 (0, 0))
    have hk := heap_alloc_new w (.cells #[.int .i64 r0, .int .i64 q0, .slice a0 n0 c0] 49 (0, 0))
    have ee2 : (w.alloc (.cells #[.int .i64 r0, .int .i64 q0, .slice a0 n0 c0] 49 (0, 0))).heap.size = w.heap.size + 1 := by simp
    have szw9 : w.heap.size < (w.alloc (.cells #[.int .i64 r0, .int .i64 q0, .slice a0 n0 c0] 49 (0, 0))).heap.size := by omega
    generalize w.alloc (.cells #[.int .i64 r0, .int .i64 q0, .slice a0 n0 c0] 49 (0, 0)) = w9 at hb hk szw9 ee2 ⊢
    have sw9 := hb.size
    replace T := Lib.hid (T.out.trans (hb.mono (by omega)))
    clear hb
    have AB0 := Lib.hid hk
    clear hk
    have ee := ee2
    clear ee2
    clear ee
    refine (szMat_big _ r0 q0 a0 n0 c0 1048576 (by omega) (by omega) (by omega) (by omega)).mono ?_
    rintro e w10 ⟨rfl, hb⟩
    have sw10 := hb.size
    replace AB0 := Lib.hid ((hb.block (w.heap.size) (by omega)).trans AB0.out)
    replace T := Lib.hid (T.out.trans (hb.mono (by omega)))
    clear hb
    go_wp2_with fail
    go_ret
    exact ⟨rfl, T.out⟩
  obtain ⟨xs0, e0, d0⟩ := k0
  exact lawMatOk_small w r0 q0 a0 n0 c0 xs0 ⟨e0, by omega, d0⟩

set_option maxRecDepth 100000 in
set_option maxHeartbeats 3200000 in
theorem lawSameMat_small (w : World) (r0 q0 : Int) (a0 : Option Addr) (n0 c0 : Nat) (xs0 : List Int) (r1 q1 : Int) (a1 : Option Addr) (n1 c1 : Nat) (xs1 : List Int) (h0 : IntsIn w.heap.size w a0 n0 xs0) (h1 : IntsIn w.heap.size w a1 n1 xs1) (htot : n0 + n1 ≤ 1048576) :
    Calls Try.prog 12 #[.agg #[.int .i64 r0, .int .i64 q0, .slice a0 n0 c0], .agg #[.int .i64 r1, .int .i64 q1, .slice a1 n1 c1]] w fun e w' => e = .returned (.bool true) ∧ Below w.heap.size w w' := by
  have hr0 := h0.room
  have L0 := h0.len
  have F0 := Lib.hid h0
  have hr1 := h1.room
  have L1 := h1.len
  have F1 := Lib.hid h1
  have S := fun (w : World) (A0 : Option Addr) (A1 : Option Addr) (H0 : IntsIn w.heap.size w A0 n0 xs0) (H1 : IntsIn w.heap.size w A1 n1 xs1) => specSameMat_any w r0 q0 A0 n0 n0 xs0 r1 q1 A1 n1 n1 xs1 H0 H1
  have P := fun (w : World) (A0 : Option Addr) (A1 : Option Addr) (H0 : IntsIn w.heap.size w A0 n0 xs0) (H1 : IntsIn w.heap.size w A1 n1 xs1) => implSameMat_any w r0 q0 A0 n0 n0 xs0 r1 q1 A1 n1 n1 xs1 H0 H1 (Nat.le_refl _) (Nat.le_refl _) (by omega) (by omega)
  obtain ⟨o, ho⟩ : ∃ o, sameMatB r0 q0 xs0 r1 q1 xs1 = o := ⟨_, rfl⟩
  rw [ho] at S P
  clear ho
  replace S := Lib.hid S
  replace P := Lib.hid P
  replace L0 := Lib.hid L0
  replace L1 := Lib.hid L1
  have T := Lib.hid (Below.refl w.heap.size w)
  clear h0 h1
  go_enter Try.func12, Try.ntmps12
  go_wp2_with fail
  have hb := (Below.refl w.heap.size w).alloc (Nat.le_refl _) (.cells #[.int .i64 r0, .int .i64 q0, .slice a0 n0 c0] 49 (0, 0))
  have hk := heap_alloc_new w (.cells #[.int .i64 r0, .int .i64 q0, .slice a0 n0 c0] 49 (0, 0))
  have ee2 : (w.alloc (.cells #[.int .i64 r0, .int .i64 q0, .slice a0 n0 c0] 49 (0, 0))).heap.size = w.heap.size + 1 := by simp
  have szw1 : w.heap.size < (w.alloc (.cells #[.int .i64 r0, .int .i64 q0, .slice a0 n0 c0] 49 (0, 0))).heap.size := by omega
  generalize w.alloc (.cells #[.int .i64 r0, .int .i64 q0, .slice a0 n0 c0] 49 (0, 0)) = w1 at hb hk szw1 ee2 ⊢
  have sw1 := hb.size
  replace F0 := Lib.hid (F0.out.below hb (by omega))
  replace F1 := Lib.hid (F1.out.below hb (by omega))
  replace T := Lib.hid (T.out.trans (hb.mono (by omega)))
  clear hb
  have AB0 := Lib.hid hk
  clear hk
  have ee := ee2
  clear ee2
  have hb := (Below.refl w1.heap.size w1).alloc (Nat.le_refl _) (.cells #[.int .i64 r1, .int .i64 q1, .slice a1 n1 c1] 49 (0, 0))
  have hk := heap_alloc_new w1 (.cells #[.int .i64 r1, .int .i64 q1, .slice a1 n1 c1] 49 (0, 0))
  rw [ee] at hk
  have ee2 : (w1.alloc (.cells #[.int .i64 r1, .int .i64 q1, .slice a1 n1 c1] 49 (0, 0))).heap.size = w.heap.size + 1 + 1 := by rw [← ee]; simp
  have szw2 : w.heap.size + 1 < (w1.alloc (.cells #[.int .i64 r1, .int .i64 q1, .slice a1 n1 c1] 49 (0, 0))).heap.size := by omega
  generalize w1.alloc (.cells #[.int .i64 r1, .int .i64 q1, .slice a1 n1 c1] 49 (0, 0)) = w2 at hb hk szw2 ee2 ⊢
  have sw2 := hb.size
  replace F0 := Lib.hid (F0.out.below hb (by omega))
  replace F1 := Lib.hid (F1.out.below hb (by omega))
  replace AB0 := Lib.hid ((hb.block (w.heap.size) (by omega)).trans AB0.out)
  replace T := Lib.hid (T.out.trans (hb.mono (by omega)))
  clear hb
  have AB1 := Lib.hid hk
  clear hk ee
  have ee := ee2
  clear ee2
  clear ee
  refine (szMat_ok _ r0 q0 a0 n0 c0 1048576 (by omega) (by omega)).mono ?_
  rintro e w3 ⟨rfl, hb⟩
  have sw3 := hb.size
  replace F0 := Lib.hid (F0.out.below hb (by omega))
  replace F1 := Lib.hid (F1.out.below hb (by omega))
  replace AB0 := Lib.hid ((hb.block (w.heap.size) (by omega)).trans AB0.out)
  replace AB1 := Lib.hid ((hb.block (w.heap.size + 1) (by omega)).trans AB1.out)
  replace T := Lib.hid (T.out.trans (hb.mono (by omega)))
  clear hb
  obtain ⟨⟨AB1x, AB1y, AB1z⟩, -⟩ := cells3 AB1.out
  go_wp2_with fail
  clear AB1x AB1y AB1z
  refine (szMat_ok _ r1 q1 a1 n1 c1 (1048576 - (n0 : Int)) (by omega) (by omega)).mono ?_
  rintro e w4 ⟨rfl, hb⟩
  have sw4 := hb.size
  replace F0 := Lib.hid (F0.out.below hb (by omega))
  replace F1 := Lib.hid (F1.out.below hb (by omega))
  replace AB0 := Lib.hid ((hb.block (w.heap.size) (by omega)).trans AB0.out)
  replace AB1 := Lib.hid ((hb.block (w.heap.size + 1) (by omega)).trans AB1.out)
  replace T := Lib.hid (T.out.trans (hb.mono (by omega)))
  clear hb
  obtain ⟨⟨AB0x, AB0y, AB0z⟩, -⟩ := cells3 AB0.out
  obtain ⟨⟨AB1x, AB1y, AB1z⟩, -⟩ := cells3 AB1.out
  go_upto_region 8 with fail
  go_cut [6] (fun t wx => t = .bool o ∧ Below w4.heap.size w4 wx)
  case first =>
    have hdr : Below w4.heap.size w4 w4.drew := (Below.refl _ _).drew
    have fd0 : IntsIn w.heap.size w4.drew a0 n0 xs0 := F0.out.below hdr (by omega)
    have FD0 := Lib.hid fd0
    clear fd0
    have fd1 : IntsIn w.heap.size w4.drew a1 n1 xs1 := F1.out.below hdr (by omega)
    have FD1 := Lib.hid fd1
    clear fd1
    have DR := Lib.hid hdr
    have szd : w4.heap.size ≤ w4.drew.heap.size := hdr.size
    clear hdr
    have ABD := Lib.hid AB1.out
    go_region_law (first
      | (go_simp; go_at_call 38; (with_reducible refine (toMat_any (w.heap.size) _ r0 q0 a0 n0 c0 xs0 FD0.out (by omega)).mono ?_); rintro e wt ⟨gt, rfl, hr, hb⟩; have bt := DR.out.trans (hb.mono (Nat.le_refl _)); obtain ⟨⟨m0, m1, m2⟩, -⟩ := cells3 ((hb.block (w.heap.size + 1) (by show w.heap.size + 1 < w4.heap.size; omega)).trans ABD.out); have ft := FD1.out.below hb (by show w.heap.size ≤ w4.heap.size; omega); have szt : w4.heap.size ≤ wt.heap.size := hb.size; have HRT := Lib.hid hr; have BT := Lib.hid bt; have FT := Lib.hid ft; clear hr hb bt ft)
      | (go_simp; go_at_call 38; (with_reducible refine (toMat_any (w.heap.size) _ r1 q1 a1 n1 c1 xs1 FT.out (by omega)).mono ?_); rintro e wu ⟨gu, rfl, hr, hb⟩; have it0 := (HRT.out.below hb).ints L0.out; have it1 := hr.ints L1.out; have bu := BT.out.trans (hb.mono (by omega)); have szu : wt.heap.size ≤ wu.heap.size := hb.size; have IT0 := Lib.hid it0; have IT1 := Lib.hid it1; have BU := Lib.hid bu; clear hr hb it0 it1 bu m0 m1 m2)
      | (go_simp; go_at_call 45; (with_reducible refine (S.out _ _ _ IT0.out IT1.out).mono ?_); rintro e wq ⟨rfl, hb⟩; have bq := BU.out.trans (hb.mono (by omega)); have BQ := Lib.hid bq; clear hb bq))
    all_goals
      go_wp2_with fail
      go_meet
      case rel => exact ⟨rfl, BQ.out⟩
  case rest =>
    obtain ⟨rfl, hb⟩ := hcut
    clear AB0x AB0y AB0z AB1x AB1y AB1z
    obtain ⟨w5, rfl⟩ : ∃ x, x = wc := ⟨_, rfl⟩
    have sw5 := hb.size
    replace F0 := Lib.hid (F0.out.below hb (by omega))
    replace F1 := Lib.hid (F1.out.below hb (by omega))
    replace AB0 := Lib.hid ((hb.block (w.heap.size) (by omega)).trans AB0.out)
    replace AB1 := Lib.hid ((hb.block (w.heap.size + 1) (by omega)).trans AB1.out)
    replace T := Lib.hid (T.out.trans (hb.mono (by omega)))
    clear hb
    obtain ⟨⟨AB0x, AB0y, AB0z⟩, -⟩ := cells3 AB0.out
    go_wp2_with fail
    clear AB0x AB0y AB0z
    refine (toMat_any _ _ r0 q0 a0 n0 c0 xs0 F0.out (by omega)).mono ?_
    rintro e w6 ⟨gw6, rfl, hr, hb⟩
    have sw6 := hb.size
    replace F0 := Lib.hid (F0.out.below hb (by omega))
    replace F1 := Lib.hid (F1.out.below hb (by omega))
    replace AB0 := Lib.hid ((hb.block (w.heap.size) (by omega)).trans AB0.out)
    replace AB1 := Lib.hid ((hb.block (w.heap.size + 1) (by omega)).trans AB1.out)
    replace T := Lib.hid (T.out.trans (hb.mono (by omega)))
    clear hb
    have QX0 : Hid (∀ k, Value.ownBlock (.slice (some ⟨gw6, 0, none⟩) n0 n0) = some k → w5.heap.size ≤ k ∧ k < w6.heap.size) := Lib.hid hr.lt
    have X0 := Lib.hid hr
    clear hr
    obtain ⟨⟨AB1x, AB1y, AB1z⟩, -⟩ := cells3 ((Below.heap_alloc w6 (.cells #[.int .i64 r0, .int .i64 q0, .slice (some ⟨gw6, 0, none⟩) n0 n0] 52 (0, 0)) (w.heap.size + 1) (by omega)).trans AB1.out)
    go_wp2_with fail
    clear AB1x AB1y AB1z
    have hb := (Below.refl w6.heap.size w6).alloc (Nat.le_refl _) (.cells #[.int .i64 r0, .int .i64 q0, .slice (some ⟨gw6, 0, none⟩) n0 n0] 52 (0, 0))
    have hk := heap_alloc_new w6 (.cells #[.int .i64 r0, .int .i64 q0, .slice (some ⟨gw6, 0, none⟩) n0 n0] 52 (0, 0))
    have szw7 : w6.heap.size < (w6.alloc (.cells #[.int .i64 r0, .int .i64 q0, .slice (some ⟨gw6, 0, none⟩) n0 n0] 52 (0, 0))).heap.size := by simp
    generalize w6.alloc (.cells #[.int .i64 r0, .int .i64 q0, .slice (some ⟨gw6, 0, none⟩) n0 n0] 52 (0, 0)) = w7 at hb hk szw7 ⊢
    have sw7 := hb.size
    replace F0 := Lib.hid (F0.out.below hb (by omega))
    replace F1 := Lib.hid (F1.out.below hb (by omega))
    replace X0 := Lib.hid (X0.out.below hb)
    replace AB0 := Lib.hid ((hb.block (w.heap.size) (by omega)).trans AB0.out)
    replace AB1 := Lib.hid ((hb.block (w.heap.size + 1) (by omega)).trans AB1.out)
    replace T := Lib.hid (T.out.trans (hb.mono (by omega)))
    clear hb
    have XB0 := Lib.hid hk
    clear hk
    refine (toMat_any _ _ r1 q1 a1 n1 c1 xs1 F1.out (by omega)).mono ?_
    rintro e w8 ⟨gw8, rfl, hr, hb⟩
    have sw8 := hb.size
    replace F0 := Lib.hid (F0.out.below hb (by omega))
    replace F1 := Lib.hid (F1.out.below hb (by omega))
    replace X0 := Lib.hid (X0.out.below hb)
    replace AB0 := Lib.hid ((hb.block (w.heap.size) (by omega)).trans AB0.out)
    replace AB1 := Lib.hid ((hb.block (w.heap.size + 1) (by omega)).trans AB1.out)
    replace XB0 := Lib.hid ((hb.block (w6.heap.size) (by omega)).trans XB0.out)
    replace T := Lib.hid (T.out.trans (hb.mono (by omega)))
    clear hb
    have QX1 : Hid (∀ k, Value.ownBlock (.slice (some ⟨gw8, 0, none⟩) n1 n1) = some k → w7.heap.size ≤ k ∧ k < w8.heap.size) := Lib.hid hr.lt
    have X1 := Lib.hid hr
    clear hr
    obtain ⟨⟨XB0x, XB0y, XB0z⟩, -⟩ := cells3 ((Below.heap_alloc w8 (.cells #[.int .i64 r1, .int .i64 q1, .slice (some ⟨gw8, 0, none⟩) n1 n1] 52 (0, 0)) (w6.heap.size) (by omega)).trans XB0.out)
    go_wp2_with fail
    clear XB0x XB0y XB0z
    have hb := (Below.refl w8.heap.size w8).alloc (Nat.le_refl _) (.cells #[.int .i64 r1, .int .i64 q1, .slice (some ⟨gw8, 0, none⟩) n1 n1] 52 (0, 0))
    have hk := heap_alloc_new w8 (.cells #[.int .i64 r1, .int .i64 q1, .slice (some ⟨gw8, 0, none⟩) n1 n1] 52 (0, 0))
    have szw9 : w8.heap.size < (w8.alloc (.cells #[.int .i64 r1, .int .i64 q1, .slice (some ⟨gw8, 0, none⟩) n1 n1] 52 (0, 0))).heap.size := by simp
    generalize w8.alloc (.cells #[.int .i64 r1, .int .i64 q1, .slice (some ⟨gw8, 0, none⟩) n1 n1] 52 (0, 0)) = w9 at hb hk szw9 ⊢
    have sw9 := hb.size
    replace F0 := Lib.hid (F0.out.below hb (by omega))
    replace F1 := Lib.hid (F1.out.below hb (by omega))
    replace X0 := Lib.hid (X0.out.below hb)
    replace X1 := Lib.hid (X1.out.below hb)
    replace AB0 := Lib.hid ((hb.block (w.heap.size) (by omega)).trans AB0.out)
    replace AB1 := Lib.hid ((hb.block (w.heap.size + 1) (by omega)).trans AB1.out)
    replace XB0 := Lib.hid ((hb.block (w6.heap.size) (by omega)).trans XB0.out)
    replace T := Lib.hid (T.out.trans (hb.mono (by omega)))
    clear hb
    have XB1 := Lib.hid hk
    clear hk
    refine (P.out _ _ _ (X0.out.ints L0.out) (X1.out.ints L1.out)).mono ?_
    rintro e w10 ⟨rfl, hb⟩
    have sw10 := hb.size
    replace F0 := Lib.hid (F0.out.below hb (by omega))
    replace F1 := Lib.hid (F1.out.below hb (by omega))
    replace X0 := Lib.hid (X0.out.below hb)
    replace X1 := Lib.hid (X1.out.below hb)
    replace AB0 := Lib.hid ((hb.block (w.heap.size) (by omega)).trans AB0.out)
    replace AB1 := Lib.hid ((hb.block (w.heap.size + 1) (by omega)).trans AB1.out)
    replace XB0 := Lib.hid ((hb.block (w6.heap.size) (by omega)).trans XB0.out)
    replace XB1 := Lib.hid ((hb.block (w8.heap.size) (by omega)).trans XB1.out)
    replace T := Lib.hid (T.out.trans (hb.mono (by omega)))
    clear hb
    obtain ⟨⟨XB0x, XB0y, XB0z⟩, -⟩ := cells3 XB0.out
    obtain ⟨⟨AB0x, AB0y, AB0z⟩, -⟩ := cells3 AB0.out
    go_upto_region 14 with fail
    go_cut [39] (fun t wx => t = .bool false ∧ Below w10.heap.size w10 wx)
    case first =>
      have hdr : Below w10.heap.size w10 w10.drew := (Below.refl _ _).drew
      have fd : IntsIn w.heap.size w10.drew a0 n0 xs0 := F0.out.below hdr (by omega)
      have xd : IntsIn w10.heap.size w10.drew _ n0 xs0 := (X0.out.ints L0.out).below hdr (Nat.le_refl _)
      have FD := Lib.hid fd
      have XD := Lib.hid xd
      have DR := Lib.hid hdr
      have szd : w10.heap.size ≤ w10.drew.heap.size := hdr.size
      clear fd xd hdr
      have xb := XB0.out
      have XBD := Lib.hid xb
      clear xb
      go_region_law (first
        | (go_simp; go_at_call 38; (with_reducible refine (toMat_any (w.heap.size) _ r0 q0 a0 n0 c0 xs0 FD.out (by omega)).mono ?_); rintro e wt ⟨gt, rfl, hr, hb⟩; have xt := (XD.out.below hb (Nat.le_refl _)).le hb.size; have bt := DR.out.trans (hb.mono (Nat.le_refl _)); obtain ⟨⟨m0, m1, m2⟩, -⟩ := cells3 ((hb.block (w6.heap.size) (by show w6.heap.size < w10.heap.size; omega)).trans XBD.out); have it := hr.ints L0.out; have XT := Lib.hid xt; have BT := Lib.hid bt; have IT := Lib.hid it; clear hr hb xt bt it)
        | (go_simp; go_at_call 40; (with_reducible refine (eqMat_same _ r0 q0 _ n0 _ xs0 _ _ XT.out IT.out).mono ?_); rintro e wq ⟨rfl, hb⟩; have bq := BT.out.trans (hb.mono BT.out.size); have BQ := Lib.hid bq; clear hb bq))
      all_goals
        go_wp2_with fail
        go_meet
        case rel => exact ⟨rfl, BQ.out⟩
    case rest =>
      obtain ⟨rfl, hb⟩ := hcut
      clear XB0x XB0y XB0z AB0x AB0y AB0z
      obtain ⟨w11, rfl⟩ : ∃ x, x = wc := ⟨_, rfl⟩
      have sw11 := hb.size
      replace F0 := Lib.hid (F0.out.below hb (by omega))
      replace F1 := Lib.hid (F1.out.below hb (by omega))
      replace X0 := Lib.hid (X0.out.below hb)
      replace X1 := Lib.hid (X1.out.below hb)
      replace AB0 := Lib.hid ((hb.block (w.heap.size) (by omega)).trans AB0.out)
      replace AB1 := Lib.hid ((hb.block (w.heap.size + 1) (by omega)).trans AB1.out)
      replace XB0 := Lib.hid ((hb.block (w6.heap.size) (by omega)).trans XB0.out)
      replace XB1 := Lib.hid ((hb.block (w8.heap.size) (by omega)).trans XB1.out)
      replace T := Lib.hid (T.out.trans (hb.mono (by omega)))
      clear hb
      obtain ⟨⟨XB1x, XB1y, XB1z⟩, -⟩ := cells3 XB1.out
      obtain ⟨⟨AB1x, AB1y, AB1z⟩, -⟩ := cells3 AB1.out
      go_upto_region 16 with fail
      go_cut [44] (fun t wx => t = .bool false ∧ Below w11.heap.size w11 wx)
      case first =>
        have hdr : Below w11.heap.size w11 w11.drew := (Below.refl _ _).drew
        have fd : IntsIn w.heap.size w11.drew a1 n1 xs1 := F1.out.below hdr (by omega)
        have xd : IntsIn w11.heap.size w11.drew _ n1 xs1 := (X1.out.ints L1.out).below hdr (Nat.le_refl _)
        have FD := Lib.hid fd
        have XD := Lib.hid xd
        have DR := Lib.hid hdr
        have szd : w11.heap.size ≤ w11.drew.heap.size := hdr.size
        clear fd xd hdr
        have xb := XB1.out
        have XBD := Lib.hid xb
        clear xb
        go_region_law (first
          | (go_simp; go_at_call 38; (with_reducible refine (toMat_any (w.heap.size) _ r1 q1 a1 n1 c1 xs1 FD.out (by omega)).mono ?_); rintro e wt ⟨gt, rfl, hr, hb⟩; have xt := (XD.out.below hb (Nat.le_refl _)).le hb.size; have bt := DR.out.trans (hb.mono (Nat.le_refl _)); obtain ⟨⟨m0, m1, m2⟩, -⟩ := cells3 ((hb.block (w8.heap.size) (by show w8.heap.size < w11.heap.size; omega)).trans XBD.out); have it := hr.ints L1.out; have XT := Lib.hid xt; have BT := Lib.hid bt; have IT := Lib.hid it; clear hr hb xt bt it)
          | (go_simp; go_at_call 40; (with_reducible refine (eqMat_same _ r1 q1 _ n1 _ xs1 _ _ XT.out IT.out).mono ?_); rintro e wq ⟨rfl, hb⟩; have bq := BT.out.trans (hb.mono BT.out.size); have BQ := Lib.hid bq; clear hb bq))
        all_goals
          go_wp2_with fail
          go_meet
          case rel => exact ⟨rfl, BQ.out⟩
      case rest =>
        obtain ⟨rfl, hb⟩ := hcut
        clear XB1x XB1y XB1z AB1x AB1y AB1z
        obtain ⟨w12, rfl⟩ : ∃ x, x = wc := ⟨_, rfl⟩
        have sw12 := hb.size
        replace F0 := Lib.hid (F0.out.below hb (by omega))
        replace F1 := Lib.hid (F1.out.below hb (by omega))
        replace X0 := Lib.hid (X0.out.below hb)
        replace X1 := Lib.hid (X1.out.below hb)
        replace AB0 := Lib.hid ((hb.block (w.heap.size) (by omega)).trans AB0.out)
        replace AB1 := Lib.hid ((hb.block (w.heap.size + 1) (by omega)).trans AB1.out)
        replace XB0 := Lib.hid ((hb.block (w6.heap.size) (by omega)).trans XB0.out)
        replace XB1 := Lib.hid ((hb.block (w8.heap.size) (by omega)).trans XB1.out)
        replace T := Lib.hid (T.out.trans (hb.mono (by omega)))
        clear hb
        go_wp2_with fail
        go_ret
        exact ⟨rfl, T.out⟩
set_option maxRecDepth 100000 in
theorem lawSameMat_any (w : World) (r0 q0 : Int) (a0 : Option Addr) (n0 c0 : Nat) (r1 q1 : Int) (a1 : Option Addr) (n1 c1 : Nat) (m0 : n0 ≤ 9223372036854775807) (k0 : CameIn w a0 n0) (m1 : n1 ≤ 9223372036854775807) (k1 : CameIn w a1 n1) :
    Calls Try.prog 12 #[.agg #[.int .i64 r0, .int .i64 q0, .slice a0 n0 c0], .agg #[.int .i64 r1, .int .i64 q1, .slice a1 n1 c1]] w fun e w' => e = .returned (.bool true) ∧ Below w.heap.size w w' := by
  by_cases b0 : 1048576 < n0
  · clear k0 k1
    have T := Lib.hid (Below.refl w.heap.size w)
    go_enter Try.func12, Try.ntmps12
    go_wp2_with fail
    have hb := (Below.refl w.heap.size w).alloc (Nat.le_refl _) (.cells #[.int .i64 r0, .int .i64 q0, .slice a0 n0 c0] 49 (0, 0))
    have hk := heap_alloc_new w (.cells #[.int .i64 r0, .int .i64 q0, .slice a0 n0 c0] 49 (0, 0))
    have ee2 : (w.alloc (.cells #[.int .i64 r0, .int .i64 q0, .slice a0 n0 c0] 49 (0, 0))).heap.size = w.heap.size + 1 := by simp
    have szw13 : w.heap.size < (w.alloc (.cells #[.int .i64 r0, .int .i64 q0, .slice a0 n0 c0] 49 (0, 0))).heap.size := by omega
    generalize w.alloc (.cells #[.int .i64 r0, .int .i64 q0, .slice a0 n0 c0] 49 (0, 0)) = w13 at hb hk szw13 ee2 ⊢
    have sw13 := hb.size
    replace T := Lib.hid (T.out.trans (hb.mono (by omega)))
    clear hb
    have AB0 := Lib.hid hk
    clear hk
    have ee := ee2
    clear ee2
    have hb := (Below.refl w13.heap.size w13).alloc (Nat.le_refl _) (.cells #[.int .i64 r1, .int .i64 q1, .slice a1 n1 c1] 49 (0, 0))
    have hk := heap_alloc_new w13 (.cells #[.int .i64 r1, .int .i64 q1, .slice a1 n1 c1] 49 (0, 0))
    rw [ee] at hk
    have ee2 : (w13.alloc (.cells #[.int .i64 r1, .int .i64 q1, .slice a1 n1 c1] 49 (0, 0))).heap.size = w.heap.size + 1 + 1 := by rw [← ee]; simp
    have szw14 : w.heap.size + 1 < (w13.alloc (.cells #[.int .i64 r1, .int .i64 q1, .slice a1 n1 c1] 49 (0, 0))).heap.size := by omega
    generalize w13.alloc (.cells #[.int .i64 r1, .int .i64 q1, .slice a1 n1 c1] 49 (0, 0)) = w14 at hb hk szw14 ee2 ⊢
    have sw14 := hb.size
    replace AB0 := Lib.hid ((hb.block (w.heap.size) (by omega)).trans AB0.out)
    replace T := Lib.hid (T.out.trans (hb.mono (by omega)))
    clear hb
    have AB1 := Lib.hid hk
    clear hk ee
    have ee := ee2
    clear ee2
    clear ee
    refine (szMat_big _ r0 q0 a0 n0 c0 1048576 (by omega) (by omega) (by omega) (by omega)).mono ?_
    rintro e w15 ⟨rfl, hb⟩
    have sw15 := hb.size
    replace AB0 := Lib.hid ((hb.block (w.heap.size) (by omega)).trans AB0.out)
    replace AB1 := Lib.hid ((hb.block (w.heap.size + 1) (by omega)).trans AB1.out)
    replace T := Lib.hid (T.out.trans (hb.mono (by omega)))
    clear hb
    go_wp2_with fail
    go_ret
    exact ⟨rfl, T.out⟩
  by_cases b1 : 1048576 < n0 + n1
  · clear k0 k1
    have T := Lib.hid (Below.refl w.heap.size w)
    go_enter Try.func12, Try.ntmps12
    go_wp2_with fail
    have hb := (Below.refl w.heap.size w).alloc (Nat.le_refl _) (.cells #[.int .i64 r0, .int .i64 q0, .slice a0 n0 c0] 49 (0, 0))
    have hk := heap_alloc_new w (.cells #[.int .i64 r0, .int .i64 q0, .slice a0 n0 c0] 49 (0, 0))
    have ee2 : (w.alloc (.cells #[.int .i64 r0, .int .i64 q0, .slice a0 n0 c0] 49 (0, 0))).heap.size = w.heap.size + 1 := by simp
    have szw16 : w.heap.size < (w.alloc (.cells #[.int .i64 r0, .int .i64 q0, .slice a0 n0 c0] 49 (0, 0))).heap.size := by omega
    generalize w.alloc (.cells #[.int .i64 r0, .int .i64 q0, .slice a0 n0 c0] 49 (0, 0)) = w16 at hb hk szw16 ee2 ⊢
    have sw16 := hb.size
    replace T := Lib.hid (T.out.trans (hb.mono (by omega)))
    clear hb
    have AB0 := Lib.hid hk
    clear hk
    have ee := ee2
    clear ee2
    have hb := (Below.refl w16.heap.size w16).alloc (Nat.le_refl _) (.cells #[.int .i64 r1, .int .i64 q1, .slice a1 n1 c1] 49 (0, 0))
    have hk := heap_alloc_new w16 (.cells #[.int .i64 r1, .int .i64 q1, .slice a1 n1 c1] 49 (0, 0))
    rw [ee] at hk
    have ee2 : (w16.alloc (.cells #[.int .i64 r1, .int .i64 q1, .slice a1 n1 c1] 49 (0, 0))).heap.size = w.heap.size + 1 + 1 := by rw [← ee]; simp
    have szw17 : w.heap.size + 1 < (w16.alloc (.cells #[.int .i64 r1, .int .i64 q1, .slice a1 n1 c1] 49 (0, 0))).heap.size := by omega
    generalize w16.alloc (.cells #[.int .i64 r1, .int .i64 q1, .slice a1 n1 c1] 49 (0, 0)) = w17 at hb hk szw17 ee2 ⊢
    have sw17 := hb.size
    replace AB0 := Lib.hid ((hb.block (w.heap.size) (by omega)).trans AB0.out)
    replace T := Lib.hid (T.out.trans (hb.mono (by omega)))
    clear hb
    have AB1 := Lib.hid hk
    clear hk ee
    have ee := ee2
    clear ee2
    clear ee
    refine (szMat_ok _ r0 q0 a0 n0 c0 1048576 (by omega) (by omega)).mono ?_
    rintro e w18 ⟨rfl, hb⟩
    have sw18 := hb.size
    replace AB0 := Lib.hid ((hb.block (w.heap.size) (by omega)).trans AB0.out)
    replace AB1 := Lib.hid ((hb.block (w.heap.size + 1) (by omega)).trans AB1.out)
    replace T := Lib.hid (T.out.trans (hb.mono (by omega)))
    clear hb
    obtain ⟨⟨AB1x, AB1y, AB1z⟩, -⟩ := cells3 AB1.out
    go_wp2_with fail
    clear AB1x AB1y AB1z
    refine (szMat_big _ r1 q1 a1 n1 c1 (1048576 - (n0 : Int)) (by omega) (by omega) (by omega) (by omega)).mono ?_
    rintro e w19 ⟨rfl, hb⟩
    have sw19 := hb.size
    replace AB0 := Lib.hid ((hb.block (w.heap.size) (by omega)).trans AB0.out)
    replace AB1 := Lib.hid ((hb.block (w.heap.size + 1) (by omega)).trans AB1.out)
    replace T := Lib.hid (T.out.trans (hb.mono (by omega)))
    clear hb
    go_wp2_with fail
    go_ret
    exact ⟨rfl, T.out⟩
  obtain ⟨xs0, e0, d0⟩ := k0
  obtain ⟨xs1, e1, d1⟩ := k1
  exact lawSameMat_small w r0 q0 a0 n0 c0 xs0 r1 q1 a1 n1 c1 xs1 ⟨e0, by omega, d0⟩ ⟨e1, by omega, d1⟩ (by omega)

set_option maxRecDepth 100000 in
set_option maxHeartbeats 3200000 in
theorem lawTranspose_small (w : World) (r0 q0 : Int) (a0 : Option Addr) (n0 c0 : Nat) (xs0 : List Int) (h0 : IntsIn w.heap.size w a0 n0 xs0) :
    Calls Try.prog 11 #[.agg #[.int .i64 r0, .int .i64 q0, .slice a0 n0 c0]] w fun e w' => e = .returned (.bool true) ∧ Below w.heap.size w w' := by
  have hr0 := h0.room
  have L0 := h0.len
  have F0 := Lib.hid h0
  have S := fun (w : World) (A0 : Option Addr) (H0 : IntsIn w.heap.size w A0 n0 xs0) => specTranspose_any w r0 q0 A0 n0 n0 xs0 H0
  have P := fun (w : World) (A0 : Option Addr) (H0 : IntsIn w.heap.size w A0 n0 xs0) => implTranspose_any w r0 q0 A0 n0 n0 xs0 H0 (Nat.le_refl _) (by omega)
  obtain ⟨R, hR⟩ : ∃ R, trR r0 q0 xs0 = R := ⟨_, rfl⟩
  rw [hR] at S P
  clear hR
  obtain ⟨C, hC⟩ : ∃ C, trC r0 q0 xs0 = C := ⟨_, rfl⟩
  rw [hC] at S P
  clear hC
  have hz : (trN r0 q0 xs0).length ≤ 36 := trN_length _ _ _
  obtain ⟨Z, hZ⟩ : ∃ Z, trN r0 q0 xs0 = Z := ⟨_, rfl⟩
  rw [hZ] at S P hz
  clear hZ
  obtain ⟨nz, hn⟩ : ∃ nz, Z.length = nz := ⟨_, rfl⟩
  rw [hn] at hz
  replace hn := Lib.hid hn
  replace S := Lib.hid S
  replace P := Lib.hid P
  replace L0 := Lib.hid L0
  have T := Lib.hid (Below.refl w.heap.size w)
  clear h0
  go_enter Try.func11, Try.ntmps11
  go_wp2_with fail
  have hb := (Below.refl w.heap.size w).alloc (Nat.le_refl _) (.cells #[.int .i64 r0, .int .i64 q0, .slice a0 n0 c0] 49 (0, 0))
  have hk := heap_alloc_new w (.cells #[.int .i64 r0, .int .i64 q0, .slice a0 n0 c0] 49 (0, 0))
  have ee2 : (w.alloc (.cells #[.int .i64 r0, .int .i64 q0, .slice a0 n0 c0] 49 (0, 0))).heap.size = w.heap.size + 1 := by simp
  have szw1 : w.heap.size < (w.alloc (.cells #[.int .i64 r0, .int .i64 q0, .slice a0 n0 c0] 49 (0, 0))).heap.size := by omega
  generalize w.alloc (.cells #[.int .i64 r0, .int .i64 q0, .slice a0 n0 c0] 49 (0, 0)) = w1 at hb hk szw1 ee2 ⊢
  have sw1 := hb.size
  replace F0 := Lib.hid (F0.out.below hb (by omega))
  replace T := Lib.hid (T.out.trans (hb.mono (by omega)))
  clear hb
  have AB0 := Lib.hid hk
  clear hk
  have ee := ee2
  clear ee2
  clear ee
  refine (szMat_ok _ r0 q0 a0 n0 c0 1048576 (by omega) (by omega)).mono ?_
  rintro e w2 ⟨rfl, hb⟩
  have sw2 := hb.size
  replace F0 := Lib.hid (F0.out.below hb (by omega))
  replace AB0 := Lib.hid ((hb.block (w.heap.size) (by omega)).trans AB0.out)
  replace T := Lib.hid (T.out.trans (hb.mono (by omega)))
  clear hb
  obtain ⟨⟨AB0x, AB0y, AB0z⟩, -⟩ := cells3 AB0.out
  go_wp2_with fail
  clear AB0x AB0y AB0z
  refine (toMat_any _ _ r0 q0 a0 n0 c0 xs0 F0.out (by omega)).mono ?_
  rintro e w3 ⟨gw3, rfl, hr, hb⟩
  have sw3 := hb.size
  replace F0 := Lib.hid (F0.out.below hb (by omega))
  replace AB0 := Lib.hid ((hb.block (w.heap.size) (by omega)).trans AB0.out)
  replace T := Lib.hid (T.out.trans (hb.mono (by omega)))
  clear hb
  have QRT0 : Hid (∀ k, Value.ownBlock (.slice (some ⟨gw3, 0, none⟩) n0 n0) = some k → w2.heap.size ≤ k ∧ k < w3.heap.size) := Lib.hid hr.lt
  have RT0 := Lib.hid hr
  clear hr
  go_wp2_with fail
  refine (S.out _ _ (RT0.out.ints L0.out)).mono ?_
  rintro e w4 ⟨vw_, rfl, hr, hb⟩
  have sw4 := hb.size
  replace F0 := Lib.hid (F0.out.below hb (by omega))
  replace RT0 := Lib.hid (RT0.out.below hb)
  replace AB0 := Lib.hid ((hb.block (w.heap.size) (by omega)).trans AB0.out)
  replace T := Lib.hid (T.out.trans (hb.mono (by omega)))
  clear hb
  obtain ⟨aw_, cw_, rfl, hi⟩ := hr.form' hn (by omega)
  have W_ := Lib.hid hi
  clear hr hi
  clear RT0
  clear QRT0
  obtain ⟨⟨AB0x, AB0y, AB0z⟩, -⟩ := cells3 ((Below.heap_alloc w4 (.cells #[.int .i64 R, .int .i64 C, .slice aw_ nz cw_] 52 (0, 0)) (w.heap.size) (by omega)).trans AB0.out)
  go_wp2_with fail
  clear AB0x AB0y AB0z
  have hb := (Below.refl w4.heap.size w4).alloc (Nat.le_refl _) (.cells #[.int .i64 R, .int .i64 C, .slice aw_ nz cw_] 52 (0, 0))
  have hk := heap_alloc_new w4 (.cells #[.int .i64 R, .int .i64 C, .slice aw_ nz cw_] 52 (0, 0))
  have szw5 : w4.heap.size < (w4.alloc (.cells #[.int .i64 R, .int .i64 C, .slice aw_ nz cw_] 52 (0, 0))).heap.size := by simp
  generalize w4.alloc (.cells #[.int .i64 R, .int .i64 C, .slice aw_ nz cw_] 52 (0, 0)) = w5 at hb hk szw5 ⊢
  have sw5 := hb.size
  replace F0 := Lib.hid (F0.out.below hb (by omega))
  replace W_ := Lib.hid (W_.out.below hb (by omega))
  replace AB0 := Lib.hid ((hb.block (w.heap.size) (by omega)).trans AB0.out)
  replace T := Lib.hid (T.out.trans (hb.mono (by omega)))
  clear hb
  have Bw_ := Lib.hid hk
  clear hk
  refine (toMat_any _ _ r0 q0 a0 n0 c0 xs0 F0.out (by omega)).mono ?_
  rintro e w6 ⟨gw6, rfl, hr, hb⟩
  have sw6 := hb.size
  replace F0 := Lib.hid (F0.out.below hb (by omega))
  replace W_ := Lib.hid (W_.out.below hb (by omega))
  replace AB0 := Lib.hid ((hb.block (w.heap.size) (by omega)).trans AB0.out)
  replace Bw_ := Lib.hid ((hb.block (w4.heap.size) (by omega)).trans Bw_.out)
  replace T := Lib.hid (T.out.trans (hb.mono (by omega)))
  clear hb
  have QX0 : Hid (∀ k, Value.ownBlock (.slice (some ⟨gw6, 0, none⟩) n0 n0) = some k → w5.heap.size ≤ k ∧ k < w6.heap.size) := Lib.hid hr.lt
  have X0 := Lib.hid hr
  clear hr
  go_wp2_with fail
  have hb := (Below.refl w6.heap.size w6).alloc (Nat.le_refl _) (.cells #[.int .i64 r0, .int .i64 q0, .slice (some ⟨gw6, 0, none⟩) n0 n0] 52 (0, 0))
  have hk := heap_alloc_new w6 (.cells #[.int .i64 r0, .int .i64 q0, .slice (some ⟨gw6, 0, none⟩) n0 n0] 52 (0, 0))
  have szw7 : w6.heap.size < (w6.alloc (.cells #[.int .i64 r0, .int .i64 q0, .slice (some ⟨gw6, 0, none⟩) n0 n0] 52 (0, 0))).heap.size := by simp
  generalize w6.alloc (.cells #[.int .i64 r0, .int .i64 q0, .slice (some ⟨gw6, 0, none⟩) n0 n0] 52 (0, 0)) = w7 at hb hk szw7 ⊢
  have sw7 := hb.size
  replace F0 := Lib.hid (F0.out.below hb (by omega))
  replace W_ := Lib.hid (W_.out.below hb (by omega))
  replace X0 := Lib.hid (X0.out.below hb)
  replace AB0 := Lib.hid ((hb.block (w.heap.size) (by omega)).trans AB0.out)
  replace Bw_ := Lib.hid ((hb.block (w4.heap.size) (by omega)).trans Bw_.out)
  replace T := Lib.hid (T.out.trans (hb.mono (by omega)))
  clear hb
  have XB0 := Lib.hid hk
  clear hk
  refine (P.out _ _ (X0.out.ints L0.out)).mono ?_
  rintro e w8 ⟨vg, rfl, hr, hb⟩
  have sw8 := hb.size
  replace F0 := Lib.hid (F0.out.below hb (by omega))
  replace W_ := Lib.hid (W_.out.below hb (by omega))
  replace X0 := Lib.hid (X0.out.below hb)
  replace AB0 := Lib.hid ((hb.block (w.heap.size) (by omega)).trans AB0.out)
  replace Bw_ := Lib.hid ((hb.block (w4.heap.size) (by omega)).trans Bw_.out)
  replace XB0 := Lib.hid ((hb.block (w6.heap.size) (by omega)).trans XB0.out)
  replace T := Lib.hid (T.out.trans (hb.mono (by omega)))
  clear hb
  obtain ⟨ag, cg, rfl, hi⟩ := hr.form' hn (by omega)
  have QG : Hid (∀ k, Value.ownBlock (.slice ag nz cg) = some k → w7.heap.size ≤ k ∧ k < w8.heap.size) := Lib.hid hr.lt
  have G := Lib.hid hr
  clear hr hi
  obtain ⟨⟨Bw_x, Bw_y, Bw_z⟩, -⟩ := cells3 ((Below.heap_alloc w8 (.cells #[.int .i64 R, .int .i64 C, .slice ag nz cg] 52 (0, 0)) (w4.heap.size) (by omega)).trans Bw_.out)
  go_wp2_with fail
  clear Bw_x Bw_y Bw_z
  have hb := (Below.refl w8.heap.size w8).alloc (Nat.le_refl _) (.cells #[.int .i64 R, .int .i64 C, .slice ag nz cg] 52 (0, 0))
  have hk := heap_alloc_new w8 (.cells #[.int .i64 R, .int .i64 C, .slice ag nz cg] 52 (0, 0))
  have szw9 : w8.heap.size < (w8.alloc (.cells #[.int .i64 R, .int .i64 C, .slice ag nz cg] 52 (0, 0))).heap.size := by simp
  generalize w8.alloc (.cells #[.int .i64 R, .int .i64 C, .slice ag nz cg] 52 (0, 0)) = w9 at hb hk szw9 ⊢
  have sw9 := hb.size
  replace F0 := Lib.hid (F0.out.below hb (by omega))
  replace W_ := Lib.hid (W_.out.below hb (by omega))
  replace X0 := Lib.hid (X0.out.below hb)
  replace G := Lib.hid (G.out.below hb)
  replace AB0 := Lib.hid ((hb.block (w.heap.size) (by omega)).trans AB0.out)
  replace Bw_ := Lib.hid ((hb.block (w4.heap.size) (by omega)).trans Bw_.out)
  replace XB0 := Lib.hid ((hb.block (w6.heap.size) (by omega)).trans XB0.out)
  replace T := Lib.hid (T.out.trans (hb.mono (by omega)))
  clear hb
  have Bg := Lib.hid hk
  clear hk
  refine (eqMat_same _ R C _ _ _ _ _ _ (G.out.ints hn.out) (W_.out.le (by omega))).mono ?_
  rintro e w10 ⟨rfl, hb⟩
  have sw10 := hb.size
  replace F0 := Lib.hid (F0.out.below hb (by omega))
  replace W_ := Lib.hid (W_.out.below hb (by omega))
  replace X0 := Lib.hid (X0.out.below hb)
  replace G := Lib.hid (G.out.below hb)
  replace AB0 := Lib.hid ((hb.block (w.heap.size) (by omega)).trans AB0.out)
  replace Bw_ := Lib.hid ((hb.block (w4.heap.size) (by omega)).trans Bw_.out)
  replace XB0 := Lib.hid ((hb.block (w6.heap.size) (by omega)).trans XB0.out)
  replace Bg := Lib.hid ((hb.block (w8.heap.size) (by omega)).trans Bg.out)
  replace T := Lib.hid (T.out.trans (hb.mono (by omega)))
  clear hb
  obtain ⟨⟨XB0x, XB0y, XB0z⟩, -⟩ := cells3 XB0.out
  obtain ⟨⟨AB0x, AB0y, AB0z⟩, -⟩ := cells3 AB0.out
  go_upto_region 10 with fail
  go_cut [31] (fun t wx => t = .bool false ∧ Below w10.heap.size w10 wx)
  case first =>
    have hdr : Below w10.heap.size w10 w10.drew := (Below.refl _ _).drew
    have fd : IntsIn w.heap.size w10.drew a0 n0 xs0 := F0.out.below hdr (by omega)
    have xd : IntsIn w10.heap.size w10.drew _ n0 xs0 := (X0.out.ints L0.out).below hdr (Nat.le_refl _)
    have FD := Lib.hid fd
    have XD := Lib.hid xd
    have DR := Lib.hid hdr
    have szd : w10.heap.size ≤ w10.drew.heap.size := hdr.size
    clear fd xd hdr
    have xb := XB0.out
    have XBD := Lib.hid xb
    clear xb
    go_region_law (first
      | (go_simp; go_at_call 38; (with_reducible refine (toMat_any (w.heap.size) _ r0 q0 a0 n0 c0 xs0 FD.out (by omega)).mono ?_); rintro e wt ⟨gt, rfl, hr, hb⟩; have xt := (XD.out.below hb (Nat.le_refl _)).le hb.size; have bt := DR.out.trans (hb.mono (Nat.le_refl _)); obtain ⟨⟨m0, m1, m2⟩, -⟩ := cells3 ((hb.block (w6.heap.size) (by show w6.heap.size < w10.heap.size; omega)).trans XBD.out); have it := hr.ints L0.out; have XT := Lib.hid xt; have BT := Lib.hid bt; have IT := Lib.hid it; clear hr hb xt bt it)
      | (go_simp; go_at_call 40; (with_reducible refine (eqMat_same _ r0 q0 _ n0 _ xs0 _ _ XT.out IT.out).mono ?_); rintro e wq ⟨rfl, hb⟩; have bq := BT.out.trans (hb.mono BT.out.size); have BQ := Lib.hid bq; clear hb bq))
    all_goals
      go_wp2_with fail
      go_meet
      case rel => exact ⟨rfl, BQ.out⟩
  case rest =>
    obtain ⟨rfl, hb⟩ := hcut
    clear XB0x XB0y XB0z AB0x AB0y AB0z
    obtain ⟨w11, rfl⟩ : ∃ x, x = wc := ⟨_, rfl⟩
    have sw11 := hb.size
    replace F0 := Lib.hid (F0.out.below hb (by omega))
    replace W_ := Lib.hid (W_.out.below hb (by omega))
    replace X0 := Lib.hid (X0.out.below hb)
    replace G := Lib.hid (G.out.below hb)
    replace AB0 := Lib.hid ((hb.block (w.heap.size) (by omega)).trans AB0.out)
    replace Bw_ := Lib.hid ((hb.block (w4.heap.size) (by omega)).trans Bw_.out)
    replace XB0 := Lib.hid ((hb.block (w6.heap.size) (by omega)).trans XB0.out)
    replace Bg := Lib.hid ((hb.block (w8.heap.size) (by omega)).trans Bg.out)
    replace T := Lib.hid (T.out.trans (hb.mono (by omega)))
    clear hb
    obtain ⟨⟨XB0x, XB0y, XB0z⟩, -⟩ := cells3 XB0.out
    go_wp2_with fail
    clear XB0x XB0y XB0z
    refine (markMat_n _ _ r0 q0 _ _ _ _ _ X0.out L0.out (by omega) (by omega) (by omega)).mono ?_
    rintro e w12 ⟨rfl, hr, hg⟩
    have sw12 := hg.size
    have hb := below_of_grown X0.out hg (by omega)
    replace F0 := Lib.hid (F0.out.below hb (by omega))
    replace W_ := Lib.hid (W_.out.below hb (by omega))
    replace G := Lib.hid (G.out.kept hg (apart_of G.out (fun k hk => by have := QX0.out k hk; omega)))
    replace AB0 := Lib.hid ((hg.block (w.heap.size) (by omega) (fun e => by have := QX0.out _ e.symm; omega)).trans AB0.out)
    replace Bw_ := Lib.hid ((hg.block (w4.heap.size) (by omega) (fun e => by have := QX0.out _ e.symm; omega)).trans Bw_.out)
    replace XB0 := Lib.hid ((hg.block (w6.heap.size) (by omega) (fun e => by have := QX0.out _ e.symm; omega)).trans XB0.out)
    replace Bg := Lib.hid ((hg.block (w8.heap.size) (by omega) (fun e => by have := QX0.out _ e.symm; omega)).trans Bg.out)
    replace T := Lib.hid (T.out.trans (hb.mono (by omega)))
    clear hr hg hb X0 QX0
    clear XB0
    obtain ⟨⟨Bgx, Bgy, Bgz⟩, -⟩ := cells3 Bg.out
    obtain ⟨⟨Bw_x, Bw_y, Bw_z⟩, -⟩ := cells3 Bw_.out
    go_wp2_with fail
    clear Bgx Bgy Bgz Bw_x Bw_y Bw_z
    refine (eqMat_same _ R C _ _ _ _ _ _ (G.out.ints hn.out) (W_.out.le (by omega))).mono ?_
    rintro e w13 ⟨rfl, hb⟩
    have sw13 := hb.size
    replace F0 := Lib.hid (F0.out.below hb (by omega))
    replace W_ := Lib.hid (W_.out.below hb (by omega))
    replace G := Lib.hid (G.out.below hb)
    replace AB0 := Lib.hid ((hb.block (w.heap.size) (by omega)).trans AB0.out)
    replace Bw_ := Lib.hid ((hb.block (w4.heap.size) (by omega)).trans Bw_.out)
    replace Bg := Lib.hid ((hb.block (w8.heap.size) (by omega)).trans Bg.out)
    replace T := Lib.hid (T.out.trans (hb.mono (by omega)))
    clear hb
    obtain ⟨⟨Bgx, Bgy, Bgz⟩, -⟩ := cells3 Bg.out
    go_wp2_with fail
    clear Bgx Bgy Bgz
    refine (markMat_n _ _ R C _ _ _ _ _ G.out hn.out (by omega) (by omega) (by omega)).mono ?_
    rintro e w14 ⟨rfl, hr, hg⟩
    have sw14 := hg.size
    have hb := below_of_grown G.out hg (by omega)
    replace F0 := Lib.hid (F0.out.below hb (by omega))
    replace W_ := Lib.hid (W_.out.below hb (by omega))
    replace AB0 := Lib.hid ((hg.block (w.heap.size) (by omega) (fun e => by have := QG.out _ e.symm; omega)).trans AB0.out)
    replace Bw_ := Lib.hid ((hg.block (w4.heap.size) (by omega) (fun e => by have := QG.out _ e.symm; omega)).trans Bw_.out)
    replace Bg := Lib.hid ((hg.block (w8.heap.size) (by omega) (fun e => by have := QG.out _ e.symm; omega)).trans Bg.out)
    replace T := Lib.hid (T.out.trans (hb.mono (by omega)))
    replace G := Lib.hid hr
    clear hr hg hb
    have hm := Lib.hid (marks_length 1 nz)
    obtain ⟨⟨Bgx, Bgy, Bgz⟩, -⟩ := cells3 Bg.out
    go_wp2_with fail
    clear Bgx Bgy Bgz
    refine (heldMat_any _ R C _ _ _ _ (G.out.ints hm.out) (by omega) (by omega)).mono ?_
    rintro e w15 ⟨rfl, hb⟩
    have sw15 := hb.size
    replace F0 := Lib.hid (F0.out.below hb (by omega))
    replace W_ := Lib.hid (W_.out.below hb (by omega))
    replace G := Lib.hid (G.out.below hb)
    replace AB0 := Lib.hid ((hb.block (w.heap.size) (by omega)).trans AB0.out)
    replace Bw_ := Lib.hid ((hb.block (w4.heap.size) (by omega)).trans Bw_.out)
    replace Bg := Lib.hid ((hb.block (w8.heap.size) (by omega)).trans Bg.out)
    replace T := Lib.hid (T.out.trans (hb.mono (by omega)))
    clear hb
    obtain ⟨⟨AB0x, AB0y, AB0z⟩, -⟩ := cells3 AB0.out
    go_wp2_with fail
    clear AB0x AB0y AB0z
    refine (toMat_any _ _ r0 q0 a0 n0 c0 xs0 F0.out (by omega)).mono ?_
    rintro e w16 ⟨gw16, rfl, hr, hb⟩
    have sw16 := hb.size
    replace F0 := Lib.hid (F0.out.below hb (by omega))
    replace W_ := Lib.hid (W_.out.below hb (by omega))
    replace G := Lib.hid (G.out.below hb)
    replace AB0 := Lib.hid ((hb.block (w.heap.size) (by omega)).trans AB0.out)
    replace Bw_ := Lib.hid ((hb.block (w4.heap.size) (by omega)).trans Bw_.out)
    replace Bg := Lib.hid ((hb.block (w8.heap.size) (by omega)).trans Bg.out)
    replace T := Lib.hid (T.out.trans (hb.mono (by omega)))
    clear hb
    have QRT0 : Hid (∀ k, Value.ownBlock (.slice (some ⟨gw16, 0, none⟩) n0 n0) = some k → w15.heap.size ≤ k ∧ k < w16.heap.size) := Lib.hid hr.lt
    have RT0 := Lib.hid hr
    clear hr
    go_wp2_with fail
    refine (P.out _ _ (RT0.out.ints L0.out)).mono ?_
    rintro e w17 ⟨vh, rfl, hr, hb⟩
    have sw17 := hb.size
    replace F0 := Lib.hid (F0.out.below hb (by omega))
    replace W_ := Lib.hid (W_.out.below hb (by omega))
    replace G := Lib.hid (G.out.below hb)
    replace RT0 := Lib.hid (RT0.out.below hb)
    replace AB0 := Lib.hid ((hb.block (w.heap.size) (by omega)).trans AB0.out)
    replace Bw_ := Lib.hid ((hb.block (w4.heap.size) (by omega)).trans Bw_.out)
    replace Bg := Lib.hid ((hb.block (w8.heap.size) (by omega)).trans Bg.out)
    replace T := Lib.hid (T.out.trans (hb.mono (by omega)))
    clear hb
    obtain ⟨ah, ch, rfl, hi⟩ := hr.form' hn (by omega)
    have H := Lib.hid hi
    clear hr hi
    clear RT0
    clear QRT0
    obtain ⟨⟨Bw_x, Bw_y, Bw_z⟩, -⟩ := cells3 ((Below.heap_alloc w17 (.cells #[.int .i64 R, .int .i64 C, .slice ah nz ch] 52 (0, 0)) (w4.heap.size) (by omega)).trans Bw_.out)
    go_wp2_with fail
    clear Bw_x Bw_y Bw_z
    have hb := (Below.refl w17.heap.size w17).alloc (Nat.le_refl _) (.cells #[.int .i64 R, .int .i64 C, .slice ah nz ch] 52 (0, 0))
    have hk := heap_alloc_new w17 (.cells #[.int .i64 R, .int .i64 C, .slice ah nz ch] 52 (0, 0))
    have szw18 : w17.heap.size < (w17.alloc (.cells #[.int .i64 R, .int .i64 C, .slice ah nz ch] 52 (0, 0))).heap.size := by simp
    generalize w17.alloc (.cells #[.int .i64 R, .int .i64 C, .slice ah nz ch] 52 (0, 0)) = w18 at hb hk szw18 ⊢
    have sw18 := hb.size
    replace F0 := Lib.hid (F0.out.below hb (by omega))
    replace W_ := Lib.hid (W_.out.below hb (by omega))
    replace H := Lib.hid (H.out.below hb (by omega))
    replace G := Lib.hid (G.out.below hb)
    replace AB0 := Lib.hid ((hb.block (w.heap.size) (by omega)).trans AB0.out)
    replace Bw_ := Lib.hid ((hb.block (w4.heap.size) (by omega)).trans Bw_.out)
    replace Bg := Lib.hid ((hb.block (w8.heap.size) (by omega)).trans Bg.out)
    replace T := Lib.hid (T.out.trans (hb.mono (by omega)))
    clear hb
    have Bh := Lib.hid hk
    clear hk
    refine (eqMat_same _ R C _ _ _ _ _ _ (H.out.le (by omega)) (W_.out.le (by omega))).mono ?_
    rintro e w19 ⟨rfl, hb⟩
    have sw19 := hb.size
    replace F0 := Lib.hid (F0.out.below hb (by omega))
    replace W_ := Lib.hid (W_.out.below hb (by omega))
    replace H := Lib.hid (H.out.below hb (by omega))
    replace G := Lib.hid (G.out.below hb)
    replace AB0 := Lib.hid ((hb.block (w.heap.size) (by omega)).trans AB0.out)
    replace Bw_ := Lib.hid ((hb.block (w4.heap.size) (by omega)).trans Bw_.out)
    replace Bg := Lib.hid ((hb.block (w8.heap.size) (by omega)).trans Bg.out)
    replace Bh := Lib.hid ((hb.block (w17.heap.size) (by omega)).trans Bh.out)
    replace T := Lib.hid (T.out.trans (hb.mono (by omega)))
    clear hb
    obtain ⟨⟨Bgx, Bgy, Bgz⟩, -⟩ := cells3 Bg.out
    go_wp2_with fail
    clear Bgx Bgy Bgz
    refine (heldMat_any _ R C _ _ _ _ (G.out.ints hm.out) (by omega) (by omega)).mono ?_
    rintro e w20 ⟨rfl, hb⟩
    have sw20 := hb.size
    replace F0 := Lib.hid (F0.out.below hb (by omega))
    replace W_ := Lib.hid (W_.out.below hb (by omega))
    replace H := Lib.hid (H.out.below hb (by omega))
    replace G := Lib.hid (G.out.below hb)
    replace AB0 := Lib.hid ((hb.block (w.heap.size) (by omega)).trans AB0.out)
    replace Bw_ := Lib.hid ((hb.block (w4.heap.size) (by omega)).trans Bw_.out)
    replace Bg := Lib.hid ((hb.block (w8.heap.size) (by omega)).trans Bg.out)
    replace Bh := Lib.hid ((hb.block (w17.heap.size) (by omega)).trans Bh.out)
    replace T := Lib.hid (T.out.trans (hb.mono (by omega)))
    clear hb
    go_wp2_with fail
    go_ret
    exact ⟨rfl, T.out⟩
set_option maxRecDepth 100000 in
theorem lawTranspose_any (w : World) (r0 q0 : Int) (a0 : Option Addr) (n0 c0 : Nat) (m0 : n0 ≤ 9223372036854775807) (k0 : CameIn w a0 n0) :
    Calls Try.prog 11 #[.agg #[.int .i64 r0, .int .i64 q0, .slice a0 n0 c0]] w fun e w' => e = .returned (.bool true) ∧ Below w.heap.size w w' := by
  by_cases b0 : 1048576 < n0
  · clear k0
    have T := Lib.hid (Below.refl w.heap.size w)
    go_enter Try.func11, Try.ntmps11
    go_wp2_with fail
    have hb := (Below.refl w.heap.size w).alloc (Nat.le_refl _) (.cells #[.int .i64 r0, .int .i64 q0, .slice a0 n0 c0] 49 (0, 0))
    have hk := heap_alloc_new w (.cells #[.int .i64 r0, .int .i64 q0, .slice a0 n0 c0] 49 (0, 0))
    have ee2 : (w.alloc (.cells #[.int .i64 r0, .int .i64 q0, .slice a0 n0 c0] 49 (0, 0))).heap.size = w.heap.size + 1 := by simp
    have szw21 : w.heap.size < (w.alloc (.cells #[.int .i64 r0, .int .i64 q0, .slice a0 n0 c0] 49 (0, 0))).heap.size := by omega
    generalize w.alloc (.cells #[.int .i64 r0, .int .i64 q0, .slice a0 n0 c0] 49 (0, 0)) = w21 at hb hk szw21 ee2 ⊢
    have sw21 := hb.size
    replace T := Lib.hid (T.out.trans (hb.mono (by omega)))
    clear hb
    have AB0 := Lib.hid hk
    clear hk
    have ee := ee2
    clear ee2
    clear ee
    refine (szMat_big _ r0 q0 a0 n0 c0 1048576 (by omega) (by omega) (by omega) (by omega)).mono ?_
    rintro e w22 ⟨rfl, hb⟩
    have sw22 := hb.size
    replace AB0 := Lib.hid ((hb.block (w.heap.size) (by omega)).trans AB0.out)
    replace T := Lib.hid (T.out.trans (hb.mono (by omega)))
    clear hb
    go_wp2_with fail
    go_ret
    exact ⟨rfl, T.out⟩
  obtain ⟨xs0, e0, d0⟩ := k0
  exact lawTranspose_small w r0 q0 a0 n0 c0 xs0 ⟨e0, by omega, d0⟩
end Go.Proofs.Ytdmkbmpgcpggdaa
