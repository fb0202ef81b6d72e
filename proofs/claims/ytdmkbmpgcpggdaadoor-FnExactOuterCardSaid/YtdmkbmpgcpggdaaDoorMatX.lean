/-
  The exact laws on tables of numbers.
-/
import Derived.Test.YtdmkbmpgcpggdaaDoorMatJ
import Derived.Test.YtdmkbmpgcpggdaaDoorMatK
import Derived.Test.YtdmkbmpgcpggdaaDoorMatV
import Derived.Test.YtdmkbmpgcpggdaaDoorIntRow
import Derived.Deep.RegionLaw
import Derived.Deep.DeepCutAuto
namespace Go.Proofs.YtdmkbmpgcpggdaaDoor
open Go.RowKit
set_option linter.unusedVariables false

set_option maxRecDepth 100000 in
set_option maxHeartbeats 3200000 in
theorem lawMatVec_small (w : World) (r0 q0 : Int) (a0 : Option Addr) (n0 c0 : Nat) (xs0 : List Int) (a1 : Option Addr) (n1 c1 : Nat) (xs1 : List Int) (h0 : IntsIn w.heap.size w a0 n0 xs0) (h1 : IntsIn w.heap.size w a1 n1 xs1) (hE : LaidE w) :
    Calls Tryd.prog 4 #[.agg #[.int .i64 r0, .int .i64 q0, .slice a0 n0 c0], .slice a1 n1 c1] w fun e w' => e = .returned (.bool true) ∧ Below w.heap.size w w' := by
  have hr0 := h0.room
  have L0 := h0.len
  have F0 := Lib.hid h0
  have hr1 := h1.room
  have L1 := h1.len
  have F1 := Lib.hid h1
  have HE := Lib.hid hE
  have hlt := hE.lt
  have S := fun (w : World) (A0 : Option Addr) (A1 : Option Addr) (H0 : IntsIn w.heap.size w A0 n0 xs0) (H1 : IntsIn w.heap.size w A1 n1 xs1) => specMatVec_any w r0 q0 A0 n0 n0 xs0 A1 n1 n1 xs1 H0 (Nat.le_refl _) (by omega) H1
  have P := fun (w : World) (A0 : Option Addr) (A1 : Option Addr) (H0 : IntsIn w.heap.size w A0 n0 xs0) (H1 : IntsIn w.heap.size w A1 n1 xs1) (E : LaidE w) => implMatVec_any w r0 q0 A0 n0 n0 xs0 A1 n1 n1 xs1 H0 (Nat.le_refl _) (by omega) H1 E
  have hz : (mvN r0 q0 xs0 xs1).length ≤ 6 := mvN_length _ _ _ _
  obtain ⟨Z, hZ⟩ : ∃ Z, mvN r0 q0 xs0 xs1 = Z := ⟨_, rfl⟩
  rw [hZ] at S P hz
  clear hZ
  obtain ⟨nz, hn⟩ : ∃ nz, Z.length = nz := ⟨_, rfl⟩
  rw [hn] at hz
  obtain ⟨o, ho⟩ : ∃ o, mvB r0 q0 xs0 xs1 = o := ⟨_, rfl⟩
  rw [ho] at S P
  clear ho
  replace hn := Lib.hid hn
  replace S := Lib.hid S
  replace P := Lib.hid P
  replace L0 := Lib.hid L0
  replace L1 := Lib.hid L1
  have T := Lib.hid (Below.refl w.heap.size w)
  clear h0 h1 hE
  go_enter Tryd.func4, Tryd.ntmps4
  go_wp2_with fail
  have hb := (Below.refl w.heap.size w).alloc (Nat.le_refl _) (.cells #[.int .i64 r0, .int .i64 q0, .slice a0 n0 c0] 39 (0, 0))
  have hk := heap_alloc_new w (.cells #[.int .i64 r0, .int .i64 q0, .slice a0 n0 c0] 39 (0, 0))
  have ee2 : (w.alloc (.cells #[.int .i64 r0, .int .i64 q0, .slice a0 n0 c0] 39 (0, 0))).heap.size = w.heap.size + 1 := by simp
  have szw1 : w.heap.size < (w.alloc (.cells #[.int .i64 r0, .int .i64 q0, .slice a0 n0 c0] 39 (0, 0))).heap.size := by omega
  generalize w.alloc (.cells #[.int .i64 r0, .int .i64 q0, .slice a0 n0 c0] 39 (0, 0)) = w1 at hb hk szw1 ee2 ⊢
  have sw1 := hb.size
  replace F0 := Lib.hid (F0.out.below hb (by omega))
  replace F1 := Lib.hid (F1.out.below hb (by omega))
  replace T := Lib.hid (T.out.trans (hb.mono (by omega)))
  clear hb
  have AB0 := Lib.hid hk
  clear hk
  have ee := ee2
  clear ee2
  clear ee
  refine (szMat_ok _ r0 q0 a0 n0 c0 1048576 (by omega) (by omega)).mono ?_
  rintro e w2 ⟨rfl, hb⟩
  have sw2 := hb.size
  replace F0 := Lib.hid (F0.out.below hb (by omega))
  replace F1 := Lib.hid (F1.out.below hb (by omega))
  replace AB0 := Lib.hid ((hb.block (w.heap.size) (by omega)).trans AB0.out)
  replace T := Lib.hid (T.out.trans (hb.mono (by omega)))
  clear hb
  obtain ⟨⟨AB0x, AB0y, AB0z⟩, -⟩ := cells3 AB0.out
  go_wp2_with fail
  clear AB0x AB0y AB0z
  refine (toMat_any _ _ r0 q0 a0 n0 c0 xs0 F0.out (by omega)).mono ?_
  rintro e w3 ⟨gw3, rfl, hr, hb⟩
  have sw3 := hb.size
  replace F0 := Lib.hid (F0.out.below hb (by omega))
  replace F1 := Lib.hid (F1.out.below hb (by omega))
  replace AB0 := Lib.hid ((hb.block (w.heap.size) (by omega)).trans AB0.out)
  replace T := Lib.hid (T.out.trans (hb.mono (by omega)))
  clear hb
  have QRT0 : Hid (∀ k, Value.ownBlock (.slice (some ⟨gw3, 0, none⟩) n0 n0) = some k → w2.heap.size ≤ k ∧ k < w3.heap.size) := Lib.hid hr.lt
  have RT0 := Lib.hid hr
  clear hr
  go_wp2_with fail
  refine (toIntS_any _ _ a1 n1 c1 xs1 F1.out (by omega)).mono ?_
  rintro e w4 ⟨rfl, hr, hb⟩
  have sw4 := hb.size
  replace F0 := Lib.hid (F0.out.below hb (by omega))
  replace F1 := Lib.hid (F1.out.below hb (by omega))
  replace RT0 := Lib.hid (RT0.out.below hb)
  replace AB0 := Lib.hid ((hb.block (w.heap.size) (by omega)).trans AB0.out)
  replace T := Lib.hid (T.out.trans (hb.mono (by omega)))
  clear hb
  have QRT1 : Hid (∀ k, Value.ownBlock (.slice (some ⟨w3.heap.size, 0, none⟩) n1 n1) = some k → w3.heap.size ≤ k ∧ k < w4.heap.size) := Lib.hid hr.lt
  have RT1 := Lib.hid hr
  clear hr
  go_wp2_with fail
  refine (S.out _ _ _ (RT0.out.ints L0.out) (RT1.out.ints L1.out)).mono ?_
  rintro e w5 ⟨vw_, rfl, hr, hb⟩
  have sw5 := hb.size
  replace F0 := Lib.hid (F0.out.below hb (by omega))
  replace F1 := Lib.hid (F1.out.below hb (by omega))
  replace RT0 := Lib.hid (RT0.out.below hb)
  replace RT1 := Lib.hid (RT1.out.below hb)
  replace AB0 := Lib.hid ((hb.block (w.heap.size) (by omega)).trans AB0.out)
  replace T := Lib.hid (T.out.trans (hb.mono (by omega)))
  clear hb
  obtain ⟨aw_, cw_, rfl, hi⟩ := hr.form' hn (by omega)
  have W_ := Lib.hid hi
  clear hr hi
  clear RT0
  clear QRT0
  clear RT1
  clear QRT1
  obtain ⟨⟨AB0x, AB0y, AB0z⟩, -⟩ := cells3 AB0.out
  go_wp2_with fail
  clear AB0x AB0y AB0z
  refine (toMat_any _ _ r0 q0 a0 n0 c0 xs0 F0.out (by omega)).mono ?_
  rintro e w6 ⟨gw6, rfl, hr, hb⟩
  have sw6 := hb.size
  replace F0 := Lib.hid (F0.out.below hb (by omega))
  replace F1 := Lib.hid (F1.out.below hb (by omega))
  replace W_ := Lib.hid (W_.out.below hb (by omega))
  replace AB0 := Lib.hid ((hb.block (w.heap.size) (by omega)).trans AB0.out)
  replace T := Lib.hid (T.out.trans (hb.mono (by omega)))
  clear hb
  have QX0 : Hid (∀ k, Value.ownBlock (.slice (some ⟨gw6, 0, none⟩) n0 n0) = some k → w5.heap.size ≤ k ∧ k < w6.heap.size) := Lib.hid hr.lt
  have X0 := Lib.hid hr
  clear hr
  go_wp2_with fail
  have hb := (Below.refl w6.heap.size w6).alloc (Nat.le_refl _) (.cells #[.int .i64 r0, .int .i64 q0, .slice (some ⟨gw6, 0, none⟩) n0 n0] 26 (0, 0))
  have hk := heap_alloc_new w6 (.cells #[.int .i64 r0, .int .i64 q0, .slice (some ⟨gw6, 0, none⟩) n0 n0] 26 (0, 0))
  have szw7 : w6.heap.size < (w6.alloc (.cells #[.int .i64 r0, .int .i64 q0, .slice (some ⟨gw6, 0, none⟩) n0 n0] 26 (0, 0))).heap.size := by simp
  generalize w6.alloc (.cells #[.int .i64 r0, .int .i64 q0, .slice (some ⟨gw6, 0, none⟩) n0 n0] 26 (0, 0)) = w7 at hb hk szw7 ⊢
  have sw7 := hb.size
  replace F0 := Lib.hid (F0.out.below hb (by omega))
  replace F1 := Lib.hid (F1.out.below hb (by omega))
  replace W_ := Lib.hid (W_.out.below hb (by omega))
  replace X0 := Lib.hid (X0.out.below hb)
  replace AB0 := Lib.hid ((hb.block (w.heap.size) (by omega)).trans AB0.out)
  replace T := Lib.hid (T.out.trans (hb.mono (by omega)))
  clear hb
  have XB0 := Lib.hid hk
  clear hk
  refine (toIntS_any _ _ a1 n1 c1 xs1 F1.out (by omega)).mono ?_
  rintro e w8 ⟨rfl, hr, hb⟩
  have sw8 := hb.size
  replace F0 := Lib.hid (F0.out.below hb (by omega))
  replace F1 := Lib.hid (F1.out.below hb (by omega))
  replace W_ := Lib.hid (W_.out.below hb (by omega))
  replace X0 := Lib.hid (X0.out.below hb)
  replace AB0 := Lib.hid ((hb.block (w.heap.size) (by omega)).trans AB0.out)
  replace XB0 := Lib.hid ((hb.block (w6.heap.size) (by omega)).trans XB0.out)
  replace T := Lib.hid (T.out.trans (hb.mono (by omega)))
  clear hb
  have QX1 : Hid (∀ k, Value.ownBlock (.slice (some ⟨w7.heap.size, 0, none⟩) n1 n1) = some k → w7.heap.size ≤ k ∧ k < w8.heap.size) := Lib.hid hr.lt
  have X1 := Lib.hid hr
  clear hr
  obtain ⟨⟨XB0x, XB0y, XB0z⟩, -⟩ := cells3 XB0.out
  go_wp2_with fail
  clear XB0x XB0y XB0z
  refine (P.out _ _ _ (X0.out.ints L0.out) (X1.out.ints L1.out) (HE.out.below hlt T.out)).mono ?_
  rintro e w9 ⟨vg, rfl, hr, hb⟩
  have sw9 := hb.size
  replace F0 := Lib.hid (F0.out.below hb (by omega))
  replace F1 := Lib.hid (F1.out.below hb (by omega))
  replace W_ := Lib.hid (W_.out.below hb (by omega))
  replace X0 := Lib.hid (X0.out.below hb)
  replace X1 := Lib.hid (X1.out.below hb)
  replace AB0 := Lib.hid ((hb.block (w.heap.size) (by omega)).trans AB0.out)
  replace XB0 := Lib.hid ((hb.block (w6.heap.size) (by omega)).trans XB0.out)
  replace T := Lib.hid (T.out.trans (hb.mono (by omega)))
  clear hb
  obtain ⟨ag, cg, rfl, hi⟩ := hr.form' hn (by omega)
  have QG : Hid (∀ k, Value.ownBlock (.slice ag nz cg) = some k → w8.heap.size ≤ k ∧ k < w9.heap.size) := Lib.hid hr.lt
  have G := Lib.hid hr
  clear hr hi
  go_wp2_with fail
  refine (eqIntS_same _ _ _ _ _ _ _ (G.out.ints hn.out) (W_.out.le (by omega))).mono ?_
  rintro e w10 ⟨rfl, hb⟩
  have sw10 := hb.size
  replace F0 := Lib.hid (F0.out.below hb (by omega))
  replace F1 := Lib.hid (F1.out.below hb (by omega))
  replace W_ := Lib.hid (W_.out.below hb (by omega))
  replace X0 := Lib.hid (X0.out.below hb)
  replace X1 := Lib.hid (X1.out.below hb)
  replace G := Lib.hid (G.out.below hb)
  replace AB0 := Lib.hid ((hb.block (w.heap.size) (by omega)).trans AB0.out)
  replace XB0 := Lib.hid ((hb.block (w6.heap.size) (by omega)).trans XB0.out)
  replace T := Lib.hid (T.out.trans (hb.mono (by omega)))
  clear hb
  obtain ⟨⟨XB0x, XB0y, XB0z⟩, -⟩ := cells3 XB0.out
  obtain ⟨⟨AB0x, AB0y, AB0z⟩, -⟩ := cells3 AB0.out
  go_upto_region 13 with fail
  go_cut [56] (fun t wx => t = .bool false ∧ Below w10.heap.size w10 wx)
  case first =>
    have hdr : Below w10.heap.size w10 w10.drew := (Below.refl _ _).drew
    have fd : IntsIn w.heap.size w10.drew a0 n0 xs0 := F0.out.below hdr (by omega)
    have xd : IntsIn w10.heap.size w10.drew _ n0 xs0 := (X0.out.ints L0.out).below hdr (Nat.le_refl _)
    have FD := Lib.hid fd
    have XD := Lib.hid xd
    have DR := Lib.hid hdr
    have szd : w10.heap.size ≤ w10.drew.heap.size := hdr.size
    clear fd xd hdr
    have xb := XB0.out
    have XBD := Lib.hid xb
    clear xb
    go_region_law (first
      | (go_simp; go_at_call 19; (with_reducible refine (toMat_any (w.heap.size) _ r0 q0 a0 n0 c0 xs0 FD.out (by omega)).mono ?_); rintro e wt ⟨gt, rfl, hr, hb⟩; have xt := (XD.out.below hb (Nat.le_refl _)).le hb.size; have bt := DR.out.trans (hb.mono (Nat.le_refl _)); obtain ⟨⟨m0, m1, m2⟩, -⟩ := cells3 ((hb.block (w6.heap.size) (by show w6.heap.size < w10.heap.size; omega)).trans XBD.out); have it := hr.ints L0.out; have XT := Lib.hid xt; have BT := Lib.hid bt; have IT := Lib.hid it; clear hr hb xt bt it)
      | (go_simp; go_at_call 22; (with_reducible refine (eqMat_same _ r0 q0 _ n0 _ xs0 _ _ XT.out IT.out).mono ?_); rintro e wq ⟨rfl, hb⟩; have bq := BT.out.trans (hb.mono BT.out.size); have BQ := Lib.hid bq; clear hb bq))
    all_goals
      go_wp2_with fail
      go_meet
      case rel => exact ⟨rfl, BQ.out⟩
  case rest =>
    obtain ⟨rfl, hb⟩ := hcut
    clear XB0x XB0y XB0z AB0x AB0y AB0z
    obtain ⟨w11, rfl⟩ : ∃ x, x = wc := ⟨_, rfl⟩
    have sw11 := hb.size
    replace F0 := Lib.hid (F0.out.below hb (by omega))
    replace F1 := Lib.hid (F1.out.below hb (by omega))
    replace W_ := Lib.hid (W_.out.below hb (by omega))
    replace X0 := Lib.hid (X0.out.below hb)
    replace X1 := Lib.hid (X1.out.below hb)
    replace G := Lib.hid (G.out.below hb)
    replace AB0 := Lib.hid ((hb.block (w.heap.size) (by omega)).trans AB0.out)
    replace XB0 := Lib.hid ((hb.block (w6.heap.size) (by omega)).trans XB0.out)
    replace T := Lib.hid (T.out.trans (hb.mono (by omega)))
    clear hb
    go_wp2_with fail
    refine (toIntS_any _ _ a1 n1 c1 xs1 F1.out (by omega)).mono ?_
    rintro e w12 ⟨rfl, hr, hb⟩
    have sw12 := hb.size
    replace F0 := Lib.hid (F0.out.below hb (by omega))
    replace F1 := Lib.hid (F1.out.below hb (by omega))
    replace W_ := Lib.hid (W_.out.below hb (by omega))
    replace X0 := Lib.hid (X0.out.below hb)
    replace X1 := Lib.hid (X1.out.below hb)
    replace G := Lib.hid (G.out.below hb)
    replace AB0 := Lib.hid ((hb.block (w.heap.size) (by omega)).trans AB0.out)
    replace XB0 := Lib.hid ((hb.block (w6.heap.size) (by omega)).trans XB0.out)
    replace T := Lib.hid (T.out.trans (hb.mono (by omega)))
    clear hb
    have QRT1 : Hid (∀ k, Value.ownBlock (.slice (some ⟨w11.heap.size, 0, none⟩) n1 n1) = some k → w11.heap.size ≤ k ∧ k < w12.heap.size) := Lib.hid hr.lt
    have RT1 := Lib.hid hr
    clear hr
    go_wp2_with fail
    refine (eqIntS_same _ _ _ _ _ _ _ (X1.out.ints L1.out) (RT1.out.ints L1.out)).mono ?_
    rintro e w13 ⟨rfl, hb⟩
    have sw13 := hb.size
    replace F0 := Lib.hid (F0.out.below hb (by omega))
    replace F1 := Lib.hid (F1.out.below hb (by omega))
    replace W_ := Lib.hid (W_.out.below hb (by omega))
    replace X0 := Lib.hid (X0.out.below hb)
    replace X1 := Lib.hid (X1.out.below hb)
    replace G := Lib.hid (G.out.below hb)
    replace RT1 := Lib.hid (RT1.out.below hb)
    replace AB0 := Lib.hid ((hb.block (w.heap.size) (by omega)).trans AB0.out)
    replace XB0 := Lib.hid ((hb.block (w6.heap.size) (by omega)).trans XB0.out)
    replace T := Lib.hid (T.out.trans (hb.mono (by omega)))
    clear hb
    clear RT1
    clear QRT1
    obtain ⟨⟨XB0x, XB0y, XB0z⟩, -⟩ := cells3 XB0.out
    go_wp2_with fail
    clear XB0x XB0y XB0z
    refine (markMat_n _ _ r0 q0 _ _ _ _ _ X0.out L0.out (by omega) (by omega) (by omega)).mono ?_
    rintro e w14 ⟨rfl, hr, hg⟩
    have sw14 := hg.size
    have hb := below_of_grown X0.out hg (by omega)
    replace F0 := Lib.hid (F0.out.below hb (by omega))
    replace F1 := Lib.hid (F1.out.below hb (by omega))
    replace W_ := Lib.hid (W_.out.below hb (by omega))
    replace X1 := Lib.hid (X1.out.kept hg (apart_of X1.out (fun k hk => by have := QX0.out k hk; omega)))
    replace G := Lib.hid (G.out.kept hg (apart_of G.out (fun k hk => by have := QX0.out k hk; omega)))
    replace AB0 := Lib.hid ((hg.block (w.heap.size) (by omega) (fun e => by have := QX0.out _ e.symm; omega)).trans AB0.out)
    replace XB0 := Lib.hid ((hg.block (w6.heap.size) (by omega) (fun e => by have := QX0.out _ e.symm; omega)).trans XB0.out)
    replace T := Lib.hid (T.out.trans (hb.mono (by omega)))
    clear hr hg hb X0 QX0
    clear XB0
    go_wp2_with fail
    refine (markIntS_n _ _ _ _ _ _ X1.out L1.out (by omega) (by omega) (by omega)).mono ?_
    rintro e w15 ⟨rfl, hr, hg⟩
    have sw15 := hg.size
    have hb := below_of_grown X1.out hg (by omega)
    replace F0 := Lib.hid (F0.out.below hb (by omega))
    replace F1 := Lib.hid (F1.out.below hb (by omega))
    replace W_ := Lib.hid (W_.out.below hb (by omega))
    replace G := Lib.hid (G.out.kept hg (apart_of G.out (fun k hk => by have := QX1.out k hk; omega)))
    replace AB0 := Lib.hid ((hg.block (w.heap.size) (by omega) (fun e => by have := QX1.out _ e.symm; omega)).trans AB0.out)
    replace T := Lib.hid (T.out.trans (hb.mono (by omega)))
    clear hr hg hb X1 QX1
    go_wp2_with fail
    refine (eqIntS_same _ _ _ _ _ _ _ (G.out.ints hn.out) (W_.out.le (by omega))).mono ?_
    rintro e w16 ⟨rfl, hb⟩
    have sw16 := hb.size
    replace F0 := Lib.hid (F0.out.below hb (by omega))
    replace F1 := Lib.hid (F1.out.below hb (by omega))
    replace W_ := Lib.hid (W_.out.below hb (by omega))
    replace G := Lib.hid (G.out.below hb)
    replace AB0 := Lib.hid ((hb.block (w.heap.size) (by omega)).trans AB0.out)
    replace T := Lib.hid (T.out.trans (hb.mono (by omega)))
    clear hb
    go_wp2_with fail
    refine (markIntS_n _ _ _ _ _ _ G.out hn.out (by omega) (by omega) (by omega)).mono ?_
    rintro e w17 ⟨rfl, hr, hg⟩
    have sw17 := hg.size
    have hb := below_of_grown G.out hg (by omega)
    replace F0 := Lib.hid (F0.out.below hb (by omega))
    replace F1 := Lib.hid (F1.out.below hb (by omega))
    replace W_ := Lib.hid (W_.out.below hb (by omega))
    replace AB0 := Lib.hid ((hg.block (w.heap.size) (by omega) (fun e => by have := QG.out _ e.symm; omega)).trans AB0.out)
    replace T := Lib.hid (T.out.trans (hb.mono (by omega)))
    replace G := Lib.hid hr
    clear hr hg hb
    have hm := Lib.hid (marks_length 1 nz)
    go_wp2_with fail
    refine (heldIntS_any _ _ _ _ _ _ (G.out.ints hm.out) (by omega) (by omega)).mono ?_
    rintro e w' ⟨rfl, rfl⟩
    obtain ⟨⟨AB0x, AB0y, AB0z⟩, -⟩ := cells3 AB0.out
    go_wp2_with fail
    clear AB0x AB0y AB0z
    refine (toMat_any _ _ r0 q0 a0 n0 c0 xs0 F0.out (by omega)).mono ?_
    rintro e w18 ⟨gw18, rfl, hr, hb⟩
    have sw18 := hb.size
    replace F0 := Lib.hid (F0.out.below hb (by omega))
    replace F1 := Lib.hid (F1.out.below hb (by omega))
    replace W_ := Lib.hid (W_.out.below hb (by omega))
    replace G := Lib.hid (G.out.below hb)
    replace AB0 := Lib.hid ((hb.block (w.heap.size) (by omega)).trans AB0.out)
    replace T := Lib.hid (T.out.trans (hb.mono (by omega)))
    clear hb
    have QRT0 : Hid (∀ k, Value.ownBlock (.slice (some ⟨gw18, 0, none⟩) n0 n0) = some k → w17.heap.size ≤ k ∧ k < w18.heap.size) := Lib.hid hr.lt
    have RT0 := Lib.hid hr
    clear hr
    go_wp2_with fail
    refine (toIntS_any _ _ a1 n1 c1 xs1 F1.out (by omega)).mono ?_
    rintro e w19 ⟨rfl, hr, hb⟩
    have sw19 := hb.size
    replace F0 := Lib.hid (F0.out.below hb (by omega))
    replace F1 := Lib.hid (F1.out.below hb (by omega))
    replace W_ := Lib.hid (W_.out.below hb (by omega))
    replace G := Lib.hid (G.out.below hb)
    replace RT0 := Lib.hid (RT0.out.below hb)
    replace AB0 := Lib.hid ((hb.block (w.heap.size) (by omega)).trans AB0.out)
    replace T := Lib.hid (T.out.trans (hb.mono (by omega)))
    clear hb
    have QRT1 : Hid (∀ k, Value.ownBlock (.slice (some ⟨w18.heap.size, 0, none⟩) n1 n1) = some k → w18.heap.size ≤ k ∧ k < w19.heap.size) := Lib.hid hr.lt
    have RT1 := Lib.hid hr
    clear hr
    go_wp2_with fail
    refine (P.out _ _ _ (RT0.out.ints L0.out) (RT1.out.ints L1.out) (HE.out.below hlt T.out)).mono ?_
    rintro e w20 ⟨vh, rfl, hr, hb⟩
    have sw20 := hb.size
    replace F0 := Lib.hid (F0.out.below hb (by omega))
    replace F1 := Lib.hid (F1.out.below hb (by omega))
    replace W_ := Lib.hid (W_.out.below hb (by omega))
    replace G := Lib.hid (G.out.below hb)
    replace RT0 := Lib.hid (RT0.out.below hb)
    replace RT1 := Lib.hid (RT1.out.below hb)
    replace AB0 := Lib.hid ((hb.block (w.heap.size) (by omega)).trans AB0.out)
    replace T := Lib.hid (T.out.trans (hb.mono (by omega)))
    clear hb
    obtain ⟨ah, ch, rfl, hi⟩ := hr.form' hn (by omega)
    have H := Lib.hid hi
    clear hr hi
    clear RT0
    clear QRT0
    clear RT1
    clear QRT1
    go_wp2_with fail
    refine (eqIntS_same _ _ _ _ _ _ _ (H.out.le (by omega)) (W_.out.le (by omega))).mono ?_
    rintro e w21 ⟨rfl, hb⟩
    have sw21 := hb.size
    replace F0 := Lib.hid (F0.out.below hb (by omega))
    replace F1 := Lib.hid (F1.out.below hb (by omega))
    replace W_ := Lib.hid (W_.out.below hb (by omega))
    replace H := Lib.hid (H.out.below hb (by omega))
    replace G := Lib.hid (G.out.below hb)
    replace AB0 := Lib.hid ((hb.block (w.heap.size) (by omega)).trans AB0.out)
    replace T := Lib.hid (T.out.trans (hb.mono (by omega)))
    clear hb
    go_wp2_with fail
    refine (heldIntS_any _ _ _ _ _ _ (G.out.ints hm.out) (by omega) (by omega)).mono ?_
    rintro e w' ⟨rfl, rfl⟩
    go_wp2_with fail
    go_ret
    exact ⟨rfl, T.out⟩
set_option maxRecDepth 100000 in
theorem lawMatVec_any (w : World) (r0 q0 : Int) (a0 : Option Addr) (n0 c0 : Nat) (a1 : Option Addr) (n1 c1 : Nat) (m0 : n0 ≤ 9223372036854775807) (k0 : CameIn w a0 n0) (m1 : n1 ≤ 9223372036854775807) (k1 : CameIn w a1 n1) (hE : LaidE w) :
    Calls Tryd.prog 4 #[.agg #[.int .i64 r0, .int .i64 q0, .slice a0 n0 c0], .slice a1 n1 c1] w fun e w' => e = .returned (.bool true) ∧ Below w.heap.size w w' := by
  by_cases b1 : 1048576 < n1
  · have t : decide ((n1 : Int) > 1048576) = true := decide_eq_true (by omega)
    clear k0 k1
    go_enter Tryd.func4, Tryd.ntmps4
    go_wp2_with fail
    go_ret
    exact ⟨rfl, (Below.refl _ _).alloc (Nat.le_refl _) _⟩
  by_cases b0 : 1048576 < n0
  · clear k0 k1
    have t1 : decide ((n1 : Int) > 1048576) = false := decide_eq_false (by omega)
    have T := Lib.hid (Below.refl w.heap.size w)
    go_enter Tryd.func4, Tryd.ntmps4
    go_wp2_with fail
    have hb := (Below.refl w.heap.size w).alloc (Nat.le_refl _) (.cells #[.int .i64 r0, .int .i64 q0, .slice a0 n0 c0] 39 (0, 0))
    have hk := heap_alloc_new w (.cells #[.int .i64 r0, .int .i64 q0, .slice a0 n0 c0] 39 (0, 0))
    have ee2 : (w.alloc (.cells #[.int .i64 r0, .int .i64 q0, .slice a0 n0 c0] 39 (0, 0))).heap.size = w.heap.size + 1 := by simp
    have szw22 : w.heap.size < (w.alloc (.cells #[.int .i64 r0, .int .i64 q0, .slice a0 n0 c0] 39 (0, 0))).heap.size := by omega
    generalize w.alloc (.cells #[.int .i64 r0, .int .i64 q0, .slice a0 n0 c0] 39 (0, 0)) = w22 at hb hk szw22 ee2 ⊢
    have sw22 := hb.size
    replace T := Lib.hid (T.out.trans (hb.mono (by omega)))
    clear hb
    have AB0 := Lib.hid hk
    clear hk
    have ee := ee2
    clear ee2
    clear ee
    refine (szMat_big _ r0 q0 a0 n0 c0 1048576 (by omega) (by omega) (by omega) (by omega)).mono ?_
    rintro e w23 ⟨rfl, hb⟩
    have sw23 := hb.size
    replace AB0 := Lib.hid ((hb.block (w.heap.size) (by omega)).trans AB0.out)
    replace T := Lib.hid (T.out.trans (hb.mono (by omega)))
    clear hb
    go_wp2_with fail
    go_ret
    exact ⟨rfl, T.out⟩
  obtain ⟨xs0, e0, d0⟩ := k0
  obtain ⟨xs1, e1, d1⟩ := k1
  exact lawMatVec_small w r0 q0 a0 n0 c0 xs0 a1 n1 c1 xs1 ⟨e0, by omega, d0⟩ ⟨e1, by omega, d1⟩ hE

set_option maxRecDepth 100000 in
set_option maxHeartbeats 3200000 in
theorem lawMatBack_small (w : World) (r0 q0 : Int) (a0 : Option Addr) (n0 c0 : Nat) (xs0 : List Int) (a1 : Option Addr) (n1 c1 : Nat) (xs1 : List Int) (h0 : IntsIn w.heap.size w a0 n0 xs0) (h1 : IntsIn w.heap.size w a1 n1 xs1) (hE : LaidE w) :
    Calls Tryd.prog 5 #[.agg #[.int .i64 r0, .int .i64 q0, .slice a0 n0 c0], .slice a1 n1 c1] w fun e w' => e = .returned (.bool true) ∧ Below w.heap.size w w' := by
  have hr0 := h0.room
  have L0 := h0.len
  have F0 := Lib.hid h0
  have hr1 := h1.room
  have L1 := h1.len
  have F1 := Lib.hid h1
  have HE := Lib.hid hE
  have hlt := hE.lt
  have S := fun (w : World) (A0 : Option Addr) (A1 : Option Addr) (H0 : IntsIn w.heap.size w A0 n0 xs0) (H1 : IntsIn w.heap.size w A1 n1 xs1) => specMatBack_any w r0 q0 A0 n0 n0 xs0 A1 n1 n1 xs1 H0 (Nat.le_refl _) (by omega) H1
  have P := fun (w : World) (A0 : Option Addr) (A1 : Option Addr) (H0 : IntsIn w.heap.size w A0 n0 xs0) (H1 : IntsIn w.heap.size w A1 n1 xs1) (E : LaidE w) => implMatBack_any w r0 q0 A0 n0 n0 xs0 A1 n1 n1 xs1 H0 (Nat.le_refl _) (by omega) H1 E
  have hz : (mbN r0 q0 xs0 xs1).length ≤ 6 := mbN_length _ _ _ _
  obtain ⟨Z, hZ⟩ : ∃ Z, mbN r0 q0 xs0 xs1 = Z := ⟨_, rfl⟩
  rw [hZ] at S P hz
  clear hZ
  obtain ⟨nz, hn⟩ : ∃ nz, Z.length = nz := ⟨_, rfl⟩
  rw [hn] at hz
  obtain ⟨o, ho⟩ : ∃ o, mbB r0 q0 xs0 xs1 = o := ⟨_, rfl⟩
  rw [ho] at S P
  clear ho
  replace hn := Lib.hid hn
  replace S := Lib.hid S
  replace P := Lib.hid P
  replace L0 := Lib.hid L0
  replace L1 := Lib.hid L1
  have T := Lib.hid (Below.refl w.heap.size w)
  clear h0 h1 hE
  go_enter Tryd.func5, Tryd.ntmps5
  go_wp2_with fail
  have hb := (Below.refl w.heap.size w).alloc (Nat.le_refl _) (.cells #[.int .i64 r0, .int .i64 q0, .slice a0 n0 c0] 39 (0, 0))
  have hk := heap_alloc_new w (.cells #[.int .i64 r0, .int .i64 q0, .slice a0 n0 c0] 39 (0, 0))
  have ee2 : (w.alloc (.cells #[.int .i64 r0, .int .i64 q0, .slice a0 n0 c0] 39 (0, 0))).heap.size = w.heap.size + 1 := by simp
  have szw1 : w.heap.size < (w.alloc (.cells #[.int .i64 r0, .int .i64 q0, .slice a0 n0 c0] 39 (0, 0))).heap.size := by omega
  generalize w.alloc (.cells #[.int .i64 r0, .int .i64 q0, .slice a0 n0 c0] 39 (0, 0)) = w1 at hb hk szw1 ee2 ⊢
  have sw1 := hb.size
  replace F0 := Lib.hid (F0.out.below hb (by omega))
  replace F1 := Lib.hid (F1.out.below hb (by omega))
  replace T := Lib.hid (T.out.trans (hb.mono (by omega)))
  clear hb
  have AB0 := Lib.hid hk
  clear hk
  have ee := ee2
  clear ee2
  clear ee
  refine (szMat_ok _ r0 q0 a0 n0 c0 1048576 (by omega) (by omega)).mono ?_
  rintro e w2 ⟨rfl, hb⟩
  have sw2 := hb.size
  replace F0 := Lib.hid (F0.out.below hb (by omega))
  replace F1 := Lib.hid (F1.out.below hb (by omega))
  replace AB0 := Lib.hid ((hb.block (w.heap.size) (by omega)).trans AB0.out)
  replace T := Lib.hid (T.out.trans (hb.mono (by omega)))
  clear hb
  obtain ⟨⟨AB0x, AB0y, AB0z⟩, -⟩ := cells3 AB0.out
  go_wp2_with fail
  clear AB0x AB0y AB0z
  refine (toMat_any _ _ r0 q0 a0 n0 c0 xs0 F0.out (by omega)).mono ?_
  rintro e w3 ⟨gw3, rfl, hr, hb⟩
  have sw3 := hb.size
  replace F0 := Lib.hid (F0.out.below hb (by omega))
  replace F1 := Lib.hid (F1.out.below hb (by omega))
  replace AB0 := Lib.hid ((hb.block (w.heap.size) (by omega)).trans AB0.out)
  replace T := Lib.hid (T.out.trans (hb.mono (by omega)))
  clear hb
  have QRT0 : Hid (∀ k, Value.ownBlock (.slice (some ⟨gw3, 0, none⟩) n0 n0) = some k → w2.heap.size ≤ k ∧ k < w3.heap.size) := Lib.hid hr.lt
  have RT0 := Lib.hid hr
  clear hr
  go_wp2_with fail
  refine (toIntS_any _ _ a1 n1 c1 xs1 F1.out (by omega)).mono ?_
  rintro e w4 ⟨rfl, hr, hb⟩
  have sw4 := hb.size
  replace F0 := Lib.hid (F0.out.below hb (by omega))
  replace F1 := Lib.hid (F1.out.below hb (by omega))
  replace RT0 := Lib.hid (RT0.out.below hb)
  replace AB0 := Lib.hid ((hb.block (w.heap.size) (by omega)).trans AB0.out)
  replace T := Lib.hid (T.out.trans (hb.mono (by omega)))
  clear hb
  have QRT1 : Hid (∀ k, Value.ownBlock (.slice (some ⟨w3.heap.size, 0, none⟩) n1 n1) = some k → w3.heap.size ≤ k ∧ k < w4.heap.size) := Lib.hid hr.lt
  have RT1 := Lib.hid hr
  clear hr
  go_wp2_with fail
  refine (S.out _ _ _ (RT0.out.ints L0.out) (RT1.out.ints L1.out)).mono ?_
  rintro e w5 ⟨vw_, rfl, hr, hb⟩
  have sw5 := hb.size
  replace F0 := Lib.hid (F0.out.below hb (by omega))
  replace F1 := Lib.hid (F1.out.below hb (by omega))
  replace RT0 := Lib.hid (RT0.out.below hb)
  replace RT1 := Lib.hid (RT1.out.below hb)
  replace AB0 := Lib.hid ((hb.block (w.heap.size) (by omega)).trans AB0.out)
  replace T := Lib.hid (T.out.trans (hb.mono (by omega)))
  clear hb
  obtain ⟨aw_, cw_, rfl, hi⟩ := hr.form' hn (by omega)
  have W_ := Lib.hid hi
  clear hr hi
  clear RT0
  clear QRT0
  clear RT1
  clear QRT1
  obtain ⟨⟨AB0x, AB0y, AB0z⟩, -⟩ := cells3 AB0.out
  go_wp2_with fail
  clear AB0x AB0y AB0z
  refine (toMat_any _ _ r0 q0 a0 n0 c0 xs0 F0.out (by omega)).mono ?_
  rintro e w6 ⟨gw6, rfl, hr, hb⟩
  have sw6 := hb.size
  replace F0 := Lib.hid (F0.out.below hb (by omega))
  replace F1 := Lib.hid (F1.out.below hb (by omega))
  replace W_ := Lib.hid (W_.out.below hb (by omega))
  replace AB0 := Lib.hid ((hb.block (w.heap.size) (by omega)).trans AB0.out)
  replace T := Lib.hid (T.out.trans (hb.mono (by omega)))
  clear hb
  have QX0 : Hid (∀ k, Value.ownBlock (.slice (some ⟨gw6, 0, none⟩) n0 n0) = some k → w5.heap.size ≤ k ∧ k < w6.heap.size) := Lib.hid hr.lt
  have X0 := Lib.hid hr
  clear hr
  go_wp2_with fail
  have hb := (Below.refl w6.heap.size w6).alloc (Nat.le_refl _) (.cells #[.int .i64 r0, .int .i64 q0, .slice (some ⟨gw6, 0, none⟩) n0 n0] 26 (0, 0))
  have hk := heap_alloc_new w6 (.cells #[.int .i64 r0, .int .i64 q0, .slice (some ⟨gw6, 0, none⟩) n0 n0] 26 (0, 0))
  have szw7 : w6.heap.size < (w6.alloc (.cells #[.int .i64 r0, .int .i64 q0, .slice (some ⟨gw6, 0, none⟩) n0 n0] 26 (0, 0))).heap.size := by simp
  generalize w6.alloc (.cells #[.int .i64 r0, .int .i64 q0, .slice (some ⟨gw6, 0, none⟩) n0 n0] 26 (0, 0)) = w7 at hb hk szw7 ⊢
  have sw7 := hb.size
  replace F0 := Lib.hid (F0.out.below hb (by omega))
  replace F1 := Lib.hid (F1.out.below hb (by omega))
  replace W_ := Lib.hid (W_.out.below hb (by omega))
  replace X0 := Lib.hid (X0.out.below hb)
  replace AB0 := Lib.hid ((hb.block (w.heap.size) (by omega)).trans AB0.out)
  replace T := Lib.hid (T.out.trans (hb.mono (by omega)))
  clear hb
  have XB0 := Lib.hid hk
  clear hk
  refine (toIntS_any _ _ a1 n1 c1 xs1 F1.out (by omega)).mono ?_
  rintro e w8 ⟨rfl, hr, hb⟩
  have sw8 := hb.size
  replace F0 := Lib.hid (F0.out.below hb (by omega))
  replace F1 := Lib.hid (F1.out.below hb (by omega))
  replace W_ := Lib.hid (W_.out.below hb (by omega))
  replace X0 := Lib.hid (X0.out.below hb)
  replace AB0 := Lib.hid ((hb.block (w.heap.size) (by omega)).trans AB0.out)
  replace XB0 := Lib.hid ((hb.block (w6.heap.size) (by omega)).trans XB0.out)
  replace T := Lib.hid (T.out.trans (hb.mono (by omega)))
  clear hb
  have QX1 : Hid (∀ k, Value.ownBlock (.slice (some ⟨w7.heap.size, 0, none⟩) n1 n1) = some k → w7.heap.size ≤ k ∧ k < w8.heap.size) := Lib.hid hr.lt
  have X1 := Lib.hid hr
  clear hr
  obtain ⟨⟨XB0x, XB0y, XB0z⟩, -⟩ := cells3 XB0.out
  go_wp2_with fail
  clear XB0x XB0y XB0z
  refine (P.out _ _ _ (X0.out.ints L0.out) (X1.out.ints L1.out) (HE.out.below hlt T.out)).mono ?_
  rintro e w9 ⟨vg, rfl, hr, hb⟩
  have sw9 := hb.size
  replace F0 := Lib.hid (F0.out.below hb (by omega))
  replace F1 := Lib.hid (F1.out.below hb (by omega))
  replace W_ := Lib.hid (W_.out.below hb (by omega))
  replace X0 := Lib.hid (X0.out.below hb)
  replace X1 := Lib.hid (X1.out.below hb)
  replace AB0 := Lib.hid ((hb.block (w.heap.size) (by omega)).trans AB0.out)
  replace XB0 := Lib.hid ((hb.block (w6.heap.size) (by omega)).trans XB0.out)
  replace T := Lib.hid (T.out.trans (hb.mono (by omega)))
  clear hb
  obtain ⟨ag, cg, rfl, hi⟩ := hr.form' hn (by omega)
  have QG : Hid (∀ k, Value.ownBlock (.slice ag nz cg) = some k → w8.heap.size ≤ k ∧ k < w9.heap.size) := Lib.hid hr.lt
  have G := Lib.hid hr
  clear hr hi
  go_wp2_with fail
  refine (eqIntS_same _ _ _ _ _ _ _ (G.out.ints hn.out) (W_.out.le (by omega))).mono ?_
  rintro e w10 ⟨rfl, hb⟩
  have sw10 := hb.size
  replace F0 := Lib.hid (F0.out.below hb (by omega))
  replace F1 := Lib.hid (F1.out.below hb (by omega))
  replace W_ := Lib.hid (W_.out.below hb (by omega))
  replace X0 := Lib.hid (X0.out.below hb)
  replace X1 := Lib.hid (X1.out.below hb)
  replace G := Lib.hid (G.out.below hb)
  replace AB0 := Lib.hid ((hb.block (w.heap.size) (by omega)).trans AB0.out)
  replace XB0 := Lib.hid ((hb.block (w6.heap.size) (by omega)).trans XB0.out)
  replace T := Lib.hid (T.out.trans (hb.mono (by omega)))
  clear hb
  obtain ⟨⟨XB0x, XB0y, XB0z⟩, -⟩ := cells3 XB0.out
  obtain ⟨⟨AB0x, AB0y, AB0z⟩, -⟩ := cells3 AB0.out
  go_upto_region 13 with fail
  go_cut [56] (fun t wx => t = .bool false ∧ Below w10.heap.size w10 wx)
  case first =>
    have hdr : Below w10.heap.size w10 w10.drew := (Below.refl _ _).drew
    have fd : IntsIn w.heap.size w10.drew a0 n0 xs0 := F0.out.below hdr (by omega)
    have xd : IntsIn w10.heap.size w10.drew _ n0 xs0 := (X0.out.ints L0.out).below hdr (Nat.le_refl _)
    have FD := Lib.hid fd
    have XD := Lib.hid xd
    have DR := Lib.hid hdr
    have szd : w10.heap.size ≤ w10.drew.heap.size := hdr.size
    clear fd xd hdr
    have xb := XB0.out
    have XBD := Lib.hid xb
    clear xb
    go_region_law (first
      | (go_simp; go_at_call 19; (with_reducible refine (toMat_any (w.heap.size) _ r0 q0 a0 n0 c0 xs0 FD.out (by omega)).mono ?_); rintro e wt ⟨gt, rfl, hr, hb⟩; have xt := (XD.out.below hb (Nat.le_refl _)).le hb.size; have bt := DR.out.trans (hb.mono (Nat.le_refl _)); obtain ⟨⟨m0, m1, m2⟩, -⟩ := cells3 ((hb.block (w6.heap.size) (by show w6.heap.size < w10.heap.size; omega)).trans XBD.out); have it := hr.ints L0.out; have XT := Lib.hid xt; have BT := Lib.hid bt; have IT := Lib.hid it; clear hr hb xt bt it)
      | (go_simp; go_at_call 22; (with_reducible refine (eqMat_same _ r0 q0 _ n0 _ xs0 _ _ XT.out IT.out).mono ?_); rintro e wq ⟨rfl, hb⟩; have bq := BT.out.trans (hb.mono BT.out.size); have BQ := Lib.hid bq; clear hb bq))
    all_goals
      go_wp2_with fail
      go_meet
      case rel => exact ⟨rfl, BQ.out⟩
  case rest =>
    obtain ⟨rfl, hb⟩ := hcut
    clear XB0x XB0y XB0z AB0x AB0y AB0z
    obtain ⟨w11, rfl⟩ : ∃ x, x = wc := ⟨_, rfl⟩
    have sw11 := hb.size
    replace F0 := Lib.hid (F0.out.below hb (by omega))
    replace F1 := Lib.hid (F1.out.below hb (by omega))
    replace W_ := Lib.hid (W_.out.below hb (by omega))
    replace X0 := Lib.hid (X0.out.below hb)
    replace X1 := Lib.hid (X1.out.below hb)
    replace G := Lib.hid (G.out.below hb)
    replace AB0 := Lib.hid ((hb.block (w.heap.size) (by omega)).trans AB0.out)
    replace XB0 := Lib.hid ((hb.block (w6.heap.size) (by omega)).trans XB0.out)
    replace T := Lib.hid (T.out.trans (hb.mono (by omega)))
    clear hb
    go_wp2_with fail
    refine (toIntS_any _ _ a1 n1 c1 xs1 F1.out (by omega)).mono ?_
    rintro e w12 ⟨rfl, hr, hb⟩
    have sw12 := hb.size
    replace F0 := Lib.hid (F0.out.below hb (by omega))
    replace F1 := Lib.hid (F1.out.below hb (by omega))
    replace W_ := Lib.hid (W_.out.below hb (by omega))
    replace X0 := Lib.hid (X0.out.below hb)
    replace X1 := Lib.hid (X1.out.below hb)
    replace G := Lib.hid (G.out.below hb)
    replace AB0 := Lib.hid ((hb.block (w.heap.size) (by omega)).trans AB0.out)
    replace XB0 := Lib.hid ((hb.block (w6.heap.size) (by omega)).trans XB0.out)
    replace T := Lib.hid (T.out.trans (hb.mono (by omega)))
    clear hb
    have QRT1 : Hid (∀ k, Value.ownBlock (.slice (some ⟨w11.heap.size, 0, none⟩) n1 n1) = some k → w11.heap.size ≤ k ∧ k < w12.heap.size) := Lib.hid hr.lt
    have RT1 := Lib.hid hr
    clear hr
    go_wp2_with fail
    refine (eqIntS_same _ _ _ _ _ _ _ (X1.out.ints L1.out) (RT1.out.ints L1.out)).mono ?_
    rintro e w13 ⟨rfl, hb⟩
    have sw13 := hb.size
    replace F0 := Lib.hid (F0.out.below hb (by omega))
    replace F1 := Lib.hid (F1.out.below hb (by omega))
    replace W_ := Lib.hid (W_.out.below hb (by omega))
    replace X0 := Lib.hid (X0.out.below hb)
    replace X1 := Lib.hid (X1.out.below hb)
    replace G := Lib.hid (G.out.below hb)
    replace RT1 := Lib.hid (RT1.out.below hb)
    replace AB0 := Lib.hid ((hb.block (w.heap.size) (by omega)).trans AB0.out)
    replace XB0 := Lib.hid ((hb.block (w6.heap.size) (by omega)).trans XB0.out)
    replace T := Lib.hid (T.out.trans (hb.mono (by omega)))
    clear hb
    clear RT1
    clear QRT1
    obtain ⟨⟨XB0x, XB0y, XB0z⟩, -⟩ := cells3 XB0.out
    go_wp2_with fail
    clear XB0x XB0y XB0z
    refine (markMat_n _ _ r0 q0 _ _ _ _ _ X0.out L0.out (by omega) (by omega) (by omega)).mono ?_
    rintro e w14 ⟨rfl, hr, hg⟩
    have sw14 := hg.size
    have hb := below_of_grown X0.out hg (by omega)
    replace F0 := Lib.hid (F0.out.below hb (by omega))
    replace F1 := Lib.hid (F1.out.below hb (by omega))
    replace W_ := Lib.hid (W_.out.below hb (by omega))
    replace X1 := Lib.hid (X1.out.kept hg (apart_of X1.out (fun k hk => by have := QX0.out k hk; omega)))
    replace G := Lib.hid (G.out.kept hg (apart_of G.out (fun k hk => by have := QX0.out k hk; omega)))
    replace AB0 := Lib.hid ((hg.block (w.heap.size) (by omega) (fun e => by have := QX0.out _ e.symm; omega)).trans AB0.out)
    replace XB0 := Lib.hid ((hg.block (w6.heap.size) (by omega) (fun e => by have := QX0.out _ e.symm; omega)).trans XB0.out)
    replace T := Lib.hid (T.out.trans (hb.mono (by omega)))
    clear hr hg hb X0 QX0
    clear XB0
    go_wp2_with fail
    refine (markIntS_n _ _ _ _ _ _ X1.out L1.out (by omega) (by omega) (by omega)).mono ?_
    rintro e w15 ⟨rfl, hr, hg⟩
    have sw15 := hg.size
    have hb := below_of_grown X1.out hg (by omega)
    replace F0 := Lib.hid (F0.out.below hb (by omega))
    replace F1 := Lib.hid (F1.out.below hb (by omega))
    replace W_ := Lib.hid (W_.out.below hb (by omega))
    replace G := Lib.hid (G.out.kept hg (apart_of G.out (fun k hk => by have := QX1.out k hk; omega)))
    replace AB0 := Lib.hid ((hg.block (w.heap.size) (by omega) (fun e => by have := QX1.out _ e.symm; omega)).trans AB0.out)
    replace T := Lib.hid (T.out.trans (hb.mono (by omega)))
    clear hr hg hb X1 QX1
    go_wp2_with fail
    refine (eqIntS_same _ _ _ _ _ _ _ (G.out.ints hn.out) (W_.out.le (by omega))).mono ?_
    rintro e w16 ⟨rfl, hb⟩
    have sw16 := hb.size
    replace F0 := Lib.hid (F0.out.below hb (by omega))
    replace F1 := Lib.hid (F1.out.below hb (by omega))
    replace W_ := Lib.hid (W_.out.below hb (by omega))
    replace G := Lib.hid (G.out.below hb)
    replace AB0 := Lib.hid ((hb.block (w.heap.size) (by omega)).trans AB0.out)
    replace T := Lib.hid (T.out.trans (hb.mono (by omega)))
    clear hb
    go_wp2_with fail
    refine (markIntS_n _ _ _ _ _ _ G.out hn.out (by omega) (by omega) (by omega)).mono ?_
    rintro e w17 ⟨rfl, hr, hg⟩
    have sw17 := hg.size
    have hb := below_of_grown G.out hg (by omega)
    replace F0 := Lib.hid (F0.out.below hb (by omega))
    replace F1 := Lib.hid (F1.out.below hb (by omega))
    replace W_ := Lib.hid (W_.out.below hb (by omega))
    replace AB0 := Lib.hid ((hg.block (w.heap.size) (by omega) (fun e => by have := QG.out _ e.symm; omega)).trans AB0.out)
    replace T := Lib.hid (T.out.trans (hb.mono (by omega)))
    replace G := Lib.hid hr
    clear hr hg hb
    have hm := Lib.hid (marks_length 1 nz)
    go_wp2_with fail
    refine (heldIntS_any _ _ _ _ _ _ (G.out.ints hm.out) (by omega) (by omega)).mono ?_
    rintro e w' ⟨rfl, rfl⟩
    obtain ⟨⟨AB0x, AB0y, AB0z⟩, -⟩ := cells3 AB0.out
    go_wp2_with fail
    clear AB0x AB0y AB0z
    refine (toMat_any _ _ r0 q0 a0 n0 c0 xs0 F0.out (by omega)).mono ?_
    rintro e w18 ⟨gw18, rfl, hr, hb⟩
    have sw18 := hb.size
    replace F0 := Lib.hid (F0.out.below hb (by omega))
    replace F1 := Lib.hid (F1.out.below hb (by omega))
    replace W_ := Lib.hid (W_.out.below hb (by omega))
    replace G := Lib.hid (G.out.below hb)
    replace AB0 := Lib.hid ((hb.block (w.heap.size) (by omega)).trans AB0.out)
    replace T := Lib.hid (T.out.trans (hb.mono (by omega)))
    clear hb
    have QRT0 : Hid (∀ k, Value.ownBlock (.slice (some ⟨gw18, 0, none⟩) n0 n0) = some k → w17.heap.size ≤ k ∧ k < w18.heap.size) := Lib.hid hr.lt
    have RT0 := Lib.hid hr
    clear hr
    go_wp2_with fail
    refine (toIntS_any _ _ a1 n1 c1 xs1 F1.out (by omega)).mono ?_
    rintro e w19 ⟨rfl, hr, hb⟩
    have sw19 := hb.size
    replace F0 := Lib.hid (F0.out.below hb (by omega))
    replace F1 := Lib.hid (F1.out.below hb (by omega))
    replace W_ := Lib.hid (W_.out.below hb (by omega))
    replace G := Lib.hid (G.out.below hb)
    replace RT0 := Lib.hid (RT0.out.below hb)
    replace AB0 := Lib.hid ((hb.block (w.heap.size) (by omega)).trans AB0.out)
    replace T := Lib.hid (T.out.trans (hb.mono (by omega)))
    clear hb
    have QRT1 : Hid (∀ k, Value.ownBlock (.slice (some ⟨w18.heap.size, 0, none⟩) n1 n1) = some k → w18.heap.size ≤ k ∧ k < w19.heap.size) := Lib.hid hr.lt
    have RT1 := Lib.hid hr
    clear hr
    go_wp2_with fail
    refine (P.out _ _ _ (RT0.out.ints L0.out) (RT1.out.ints L1.out) (HE.out.below hlt T.out)).mono ?_
    rintro e w20 ⟨vh, rfl, hr, hb⟩
    have sw20 := hb.size
    replace F0 := Lib.hid (F0.out.below hb (by omega))
    replace F1 := Lib.hid (F1.out.below hb (by omega))
    replace W_ := Lib.hid (W_.out.below hb (by omega))
    replace G := Lib.hid (G.out.below hb)
    replace RT0 := Lib.hid (RT0.out.below hb)
    replace RT1 := Lib.hid (RT1.out.below hb)
    replace AB0 := Lib.hid ((hb.block (w.heap.size) (by omega)).trans AB0.out)
    replace T := Lib.hid (T.out.trans (hb.mono (by omega)))
    clear hb
    obtain ⟨ah, ch, rfl, hi⟩ := hr.form' hn (by omega)
    have H := Lib.hid hi
    clear hr hi
    clear RT0
    clear QRT0
    clear RT1
    clear QRT1
    go_wp2_with fail
    refine (eqIntS_same _ _ _ _ _ _ _ (H.out.le (by omega)) (W_.out.le (by omega))).mono ?_
    rintro e w21 ⟨rfl, hb⟩
    have sw21 := hb.size
    replace F0 := Lib.hid (F0.out.below hb (by omega))
    replace F1 := Lib.hid (F1.out.below hb (by omega))
    replace W_ := Lib.hid (W_.out.below hb (by omega))
    replace H := Lib.hid (H.out.below hb (by omega))
    replace G := Lib.hid (G.out.below hb)
    replace AB0 := Lib.hid ((hb.block (w.heap.size) (by omega)).trans AB0.out)
    replace T := Lib.hid (T.out.trans (hb.mono (by omega)))
    clear hb
    go_wp2_with fail
    refine (heldIntS_any _ _ _ _ _ _ (G.out.ints hm.out) (by omega) (by omega)).mono ?_
    rintro e w' ⟨rfl, rfl⟩
    go_wp2_with fail
    go_ret
    exact ⟨rfl, T.out⟩
set_option maxRecDepth 100000 in
theorem lawMatBack_any (w : World) (r0 q0 : Int) (a0 : Option Addr) (n0 c0 : Nat) (a1 : Option Addr) (n1 c1 : Nat) (m0 : n0 ≤ 9223372036854775807) (k0 : CameIn w a0 n0) (m1 : n1 ≤ 9223372036854775807) (k1 : CameIn w a1 n1) (hE : LaidE w) :
    Calls Tryd.prog 5 #[.agg #[.int .i64 r0, .int .i64 q0, .slice a0 n0 c0], .slice a1 n1 c1] w fun e w' => e = .returned (.bool true) ∧ Below w.heap.size w w' := by
  by_cases b1 : 1048576 < n1
  · have t : decide ((n1 : Int) > 1048576) = true := decide_eq_true (by omega)
    clear k0 k1
    go_enter Tryd.func5, Tryd.ntmps5
    go_wp2_with fail
    go_ret
    exact ⟨rfl, (Below.refl _ _).alloc (Nat.le_refl _) _⟩
  by_cases b0 : 1048576 < n0
  · clear k0 k1
    have t1 : decide ((n1 : Int) > 1048576) = false := decide_eq_false (by omega)
    have T := Lib.hid (Below.refl w.heap.size w)
    go_enter Tryd.func5, Tryd.ntmps5
    go_wp2_with fail
    have hb := (Below.refl w.heap.size w).alloc (Nat.le_refl _) (.cells #[.int .i64 r0, .int .i64 q0, .slice a0 n0 c0] 39 (0, 0))
    have hk := heap_alloc_new w (.cells #[.int .i64 r0, .int .i64 q0, .slice a0 n0 c0] 39 (0, 0))
    have ee2 : (w.alloc (.cells #[.int .i64 r0, .int .i64 q0, .slice a0 n0 c0] 39 (0, 0))).heap.size = w.heap.size + 1 := by simp
    have szw22 : w.heap.size < (w.alloc (.cells #[.int .i64 r0, .int .i64 q0, .slice a0 n0 c0] 39 (0, 0))).heap.size := by omega
    generalize w.alloc (.cells #[.int .i64 r0, .int .i64 q0, .slice a0 n0 c0] 39 (0, 0)) = w22 at hb hk szw22 ee2 ⊢
    have sw22 := hb.size
    replace T := Lib.hid (T.out.trans (hb.mono (by omega)))
    clear hb
    have AB0 := Lib.hid hk
    clear hk
    have ee := ee2
    clear ee2
    clear ee
    refine (szMat_big _ r0 q0 a0 n0 c0 1048576 (by omega) (by omega) (by omega) (by omega)).mono ?_
    rintro e w23 ⟨rfl, hb⟩
    have sw23 := hb.size
    replace AB0 := Lib.hid ((hb.block (w.heap.size) (by omega)).trans AB0.out)
    replace T := Lib.hid (T.out.trans (hb.mono (by omega)))
    clear hb
    go_wp2_with fail
    go_ret
    exact ⟨rfl, T.out⟩
  obtain ⟨xs0, e0, d0⟩ := k0
  obtain ⟨xs1, e1, d1⟩ := k1
  exact lawMatBack_small w r0 q0 a0 n0 c0 xs0 a1 n1 c1 xs1 ⟨e0, by omega, d0⟩ ⟨e1, by omega, d1⟩ hE

set_option maxRecDepth 100000 in
set_option maxHeartbeats 3200000 in
theorem lawOuter_small (w : World) (a0 : Option Addr) (n0 c0 : Nat) (xs0 : List Int) (a1 : Option Addr) (n1 c1 : Nat) (xs1 : List Int) (h0 : IntsIn w.heap.size w a0 n0 xs0) (h1 : IntsIn w.heap.size w a1 n1 xs1) (hE : LaidE w) :
    Calls Tryd.prog 6 #[.slice a0 n0 c0, .slice a1 n1 c1] w fun e w' => e = .returned (.bool true) ∧ Below w.heap.size w w' := by
  have hr0 := h0.room
  have L0 := h0.len
  have F0 := Lib.hid h0
  have hr1 := h1.room
  have L1 := h1.len
  have F1 := Lib.hid h1
  have HE := Lib.hid hE
  have hlt := hE.lt
  have S := fun (w : World) (A0 : Option Addr) (A1 : Option Addr) (H0 : IntsIn w.heap.size w A0 n0 xs0) (H1 : IntsIn w.heap.size w A1 n1 xs1) => specOuter_any w A0 n0 n0 xs0 A1 n1 n1 xs1 H0 H1
  have P := fun (w : World) (A0 : Option Addr) (A1 : Option Addr) (H0 : IntsIn w.heap.size w A0 n0 xs0) (H1 : IntsIn w.heap.size w A1 n1 xs1) (E : LaidE w) => implOuter_any w A0 n0 n0 xs0 A1 n1 n1 xs1 H0 H1 E
  obtain ⟨R, hR⟩ : ∃ R, outR xs0 xs1 = R := ⟨_, rfl⟩
  rw [hR] at S P
  clear hR
  obtain ⟨C, hC⟩ : ∃ C, outC xs0 xs1 = C := ⟨_, rfl⟩
  rw [hC] at S P
  clear hC
  have hz : (outN xs0 xs1).length ≤ 36 := outN_length _ _
  obtain ⟨Z, hZ⟩ : ∃ Z, outN xs0 xs1 = Z := ⟨_, rfl⟩
  rw [hZ] at S P hz
  clear hZ
  obtain ⟨nz, hn⟩ : ∃ nz, Z.length = nz := ⟨_, rfl⟩
  rw [hn] at hz
  obtain ⟨o, ho⟩ : ∃ o, outB xs0 xs1 = o := ⟨_, rfl⟩
  rw [ho] at S P
  clear ho
  replace hn := Lib.hid hn
  replace S := Lib.hid S
  replace P := Lib.hid P
  replace L0 := Lib.hid L0
  replace L1 := Lib.hid L1
  have T := Lib.hid (Below.refl w.heap.size w)
  clear h0 h1 hE
  go_enter Tryd.func6, Tryd.ntmps6
  go_wp2_with fail
  refine (toIntS_any _ _ a0 n0 c0 xs0 F0.out (by omega)).mono ?_
  rintro e w1 ⟨rfl, hr, hb⟩
  have sw1 := hb.size
  replace F0 := Lib.hid (F0.out.below hb (by omega))
  replace F1 := Lib.hid (F1.out.below hb (by omega))
  replace T := Lib.hid (T.out.trans (hb.mono (by omega)))
  clear hb
  have QRT0 : Hid (∀ k, Value.ownBlock (.slice (some ⟨w.heap.size, 0, none⟩) n0 n0) = some k → w.heap.size ≤ k ∧ k < w1.heap.size) := Lib.hid hr.lt
  have RT0 := Lib.hid hr
  clear hr
  go_wp2_with fail
  refine (toIntS_any _ _ a1 n1 c1 xs1 F1.out (by omega)).mono ?_
  rintro e w2 ⟨rfl, hr, hb⟩
  have sw2 := hb.size
  replace F0 := Lib.hid (F0.out.below hb (by omega))
  replace F1 := Lib.hid (F1.out.below hb (by omega))
  replace RT0 := Lib.hid (RT0.out.below hb)
  replace T := Lib.hid (T.out.trans (hb.mono (by omega)))
  clear hb
  have QRT1 : Hid (∀ k, Value.ownBlock (.slice (some ⟨w1.heap.size, 0, none⟩) n1 n1) = some k → w1.heap.size ≤ k ∧ k < w2.heap.size) := Lib.hid hr.lt
  have RT1 := Lib.hid hr
  clear hr
  go_wp2_with fail
  refine (S.out _ _ _ (RT0.out.ints L0.out) (RT1.out.ints L1.out)).mono ?_
  rintro e w3 ⟨vw_, rfl, hr, hb⟩
  have sw3 := hb.size
  replace F0 := Lib.hid (F0.out.below hb (by omega))
  replace F1 := Lib.hid (F1.out.below hb (by omega))
  replace RT0 := Lib.hid (RT0.out.below hb)
  replace RT1 := Lib.hid (RT1.out.below hb)
  replace T := Lib.hid (T.out.trans (hb.mono (by omega)))
  clear hb
  obtain ⟨aw_, cw_, rfl, hi⟩ := hr.form' hn (by omega)
  have W_ := Lib.hid hi
  clear hr hi
  clear RT0
  clear QRT0
  clear RT1
  clear QRT1
  go_wp2_with fail
  have hb := (Below.refl w3.heap.size w3).alloc (Nat.le_refl _) (.cells #[.int .i64 R, .int .i64 C, .slice aw_ nz cw_] 26 (0, 0))
  have hk := heap_alloc_new w3 (.cells #[.int .i64 R, .int .i64 C, .slice aw_ nz cw_] 26 (0, 0))
  have szw4 : w3.heap.size < (w3.alloc (.cells #[.int .i64 R, .int .i64 C, .slice aw_ nz cw_] 26 (0, 0))).heap.size := by simp
  generalize w3.alloc (.cells #[.int .i64 R, .int .i64 C, .slice aw_ nz cw_] 26 (0, 0)) = w4 at hb hk szw4 ⊢
  have sw4 := hb.size
  replace F0 := Lib.hid (F0.out.below hb (by omega))
  replace F1 := Lib.hid (F1.out.below hb (by omega))
  replace W_ := Lib.hid (W_.out.below hb (by omega))
  replace T := Lib.hid (T.out.trans (hb.mono (by omega)))
  clear hb
  have Bw_ := Lib.hid hk
  clear hk
  refine (toIntS_any _ _ a0 n0 c0 xs0 F0.out (by omega)).mono ?_
  rintro e w5 ⟨rfl, hr, hb⟩
  have sw5 := hb.size
  replace F0 := Lib.hid (F0.out.below hb (by omega))
  replace F1 := Lib.hid (F1.out.below hb (by omega))
  replace W_ := Lib.hid (W_.out.below hb (by omega))
  replace Bw_ := Lib.hid ((hb.block (w3.heap.size) (by omega)).trans Bw_.out)
  replace T := Lib.hid (T.out.trans (hb.mono (by omega)))
  clear hb
  have QX0 : Hid (∀ k, Value.ownBlock (.slice (some ⟨w4.heap.size, 0, none⟩) n0 n0) = some k → w4.heap.size ≤ k ∧ k < w5.heap.size) := Lib.hid hr.lt
  have X0 := Lib.hid hr
  clear hr
  go_wp2_with fail
  refine (toIntS_any _ _ a1 n1 c1 xs1 F1.out (by omega)).mono ?_
  rintro e w6 ⟨rfl, hr, hb⟩
  have sw6 := hb.size
  replace F0 := Lib.hid (F0.out.below hb (by omega))
  replace F1 := Lib.hid (F1.out.below hb (by omega))
  replace W_ := Lib.hid (W_.out.below hb (by omega))
  replace X0 := Lib.hid (X0.out.below hb)
  replace Bw_ := Lib.hid ((hb.block (w3.heap.size) (by omega)).trans Bw_.out)
  replace T := Lib.hid (T.out.trans (hb.mono (by omega)))
  clear hb
  have QX1 : Hid (∀ k, Value.ownBlock (.slice (some ⟨w5.heap.size, 0, none⟩) n1 n1) = some k → w5.heap.size ≤ k ∧ k < w6.heap.size) := Lib.hid hr.lt
  have X1 := Lib.hid hr
  clear hr
  go_wp2_with fail
  refine (P.out _ _ _ (X0.out.ints L0.out) (X1.out.ints L1.out) (HE.out.below hlt T.out)).mono ?_
  rintro e w7 ⟨vg, rfl, hr, hb⟩
  have sw7 := hb.size
  replace F0 := Lib.hid (F0.out.below hb (by omega))
  replace F1 := Lib.hid (F1.out.below hb (by omega))
  replace W_ := Lib.hid (W_.out.below hb (by omega))
  replace X0 := Lib.hid (X0.out.below hb)
  replace X1 := Lib.hid (X1.out.below hb)
  replace Bw_ := Lib.hid ((hb.block (w3.heap.size) (by omega)).trans Bw_.out)
  replace T := Lib.hid (T.out.trans (hb.mono (by omega)))
  clear hb
  obtain ⟨ag, cg, rfl, hi⟩ := hr.form' hn (by omega)
  have QG : Hid (∀ k, Value.ownBlock (.slice ag nz cg) = some k → w6.heap.size ≤ k ∧ k < w7.heap.size) := Lib.hid hr.lt
  have G := Lib.hid hr
  clear hr hi
  obtain ⟨⟨Bw_x, Bw_y, Bw_z⟩, -⟩ := cells3 ((Below.heap_alloc w7 (.cells #[.int .i64 R, .int .i64 C, .slice ag nz cg] 26 (0, 0)) (w3.heap.size) (by omega)).trans Bw_.out)
  go_wp2_with fail
  clear Bw_x Bw_y Bw_z
  have hb := (Below.refl w7.heap.size w7).alloc (Nat.le_refl _) (.cells #[.int .i64 R, .int .i64 C, .slice ag nz cg] 26 (0, 0))
  have hk := heap_alloc_new w7 (.cells #[.int .i64 R, .int .i64 C, .slice ag nz cg] 26 (0, 0))
  have szw8 : w7.heap.size < (w7.alloc (.cells #[.int .i64 R, .int .i64 C, .slice ag nz cg] 26 (0, 0))).heap.size := by simp
  generalize w7.alloc (.cells #[.int .i64 R, .int .i64 C, .slice ag nz cg] 26 (0, 0)) = w8 at hb hk szw8 ⊢
  have sw8 := hb.size
  replace F0 := Lib.hid (F0.out.below hb (by omega))
  replace F1 := Lib.hid (F1.out.below hb (by omega))
  replace W_ := Lib.hid (W_.out.below hb (by omega))
  replace X0 := Lib.hid (X0.out.below hb)
  replace X1 := Lib.hid (X1.out.below hb)
  replace G := Lib.hid (G.out.below hb)
  replace Bw_ := Lib.hid ((hb.block (w3.heap.size) (by omega)).trans Bw_.out)
  replace T := Lib.hid (T.out.trans (hb.mono (by omega)))
  clear hb
  have Bg := Lib.hid hk
  clear hk
  refine (eqMat_same _ R C _ _ _ _ _ _ (G.out.ints hn.out) (W_.out.le (by omega))).mono ?_
  rintro e w9 ⟨rfl, hb⟩
  have sw9 := hb.size
  replace F0 := Lib.hid (F0.out.below hb (by omega))
  replace F1 := Lib.hid (F1.out.below hb (by omega))
  replace W_ := Lib.hid (W_.out.below hb (by omega))
  replace X0 := Lib.hid (X0.out.below hb)
  replace X1 := Lib.hid (X1.out.below hb)
  replace G := Lib.hid (G.out.below hb)
  replace Bw_ := Lib.hid ((hb.block (w3.heap.size) (by omega)).trans Bw_.out)
  replace Bg := Lib.hid ((hb.block (w7.heap.size) (by omega)).trans Bg.out)
  replace T := Lib.hid (T.out.trans (hb.mono (by omega)))
  clear hb
  go_wp2_with fail
  refine (toIntS_any _ _ a0 n0 c0 xs0 F0.out (by omega)).mono ?_
  rintro e w10 ⟨rfl, hr, hb⟩
  have sw10 := hb.size
  replace F0 := Lib.hid (F0.out.below hb (by omega))
  replace F1 := Lib.hid (F1.out.below hb (by omega))
  replace W_ := Lib.hid (W_.out.below hb (by omega))
  replace X0 := Lib.hid (X0.out.below hb)
  replace X1 := Lib.hid (X1.out.below hb)
  replace G := Lib.hid (G.out.below hb)
  replace Bw_ := Lib.hid ((hb.block (w3.heap.size) (by omega)).trans Bw_.out)
  replace Bg := Lib.hid ((hb.block (w7.heap.size) (by omega)).trans Bg.out)
  replace T := Lib.hid (T.out.trans (hb.mono (by omega)))
  clear hb
  have QRT0 : Hid (∀ k, Value.ownBlock (.slice (some ⟨w9.heap.size, 0, none⟩) n0 n0) = some k → w9.heap.size ≤ k ∧ k < w10.heap.size) := Lib.hid hr.lt
  have RT0 := Lib.hid hr
  clear hr
  go_wp2_with fail
  refine (eqIntS_same _ _ _ _ _ _ _ (X0.out.ints L0.out) (RT0.out.ints L0.out)).mono ?_
  rintro e w11 ⟨rfl, hb⟩
  have sw11 := hb.size
  replace F0 := Lib.hid (F0.out.below hb (by omega))
  replace F1 := Lib.hid (F1.out.below hb (by omega))
  replace W_ := Lib.hid (W_.out.below hb (by omega))
  replace X0 := Lib.hid (X0.out.below hb)
  replace X1 := Lib.hid (X1.out.below hb)
  replace G := Lib.hid (G.out.below hb)
  replace RT0 := Lib.hid (RT0.out.below hb)
  replace Bw_ := Lib.hid ((hb.block (w3.heap.size) (by omega)).trans Bw_.out)
  replace Bg := Lib.hid ((hb.block (w7.heap.size) (by omega)).trans Bg.out)
  replace T := Lib.hid (T.out.trans (hb.mono (by omega)))
  clear hb
  clear RT0
  clear QRT0
  go_wp2_with fail
  refine (toIntS_any _ _ a1 n1 c1 xs1 F1.out (by omega)).mono ?_
  rintro e w12 ⟨rfl, hr, hb⟩
  have sw12 := hb.size
  replace F0 := Lib.hid (F0.out.below hb (by omega))
  replace F1 := Lib.hid (F1.out.below hb (by omega))
  replace W_ := Lib.hid (W_.out.below hb (by omega))
  replace X0 := Lib.hid (X0.out.below hb)
  replace X1 := Lib.hid (X1.out.below hb)
  replace G := Lib.hid (G.out.below hb)
  replace Bw_ := Lib.hid ((hb.block (w3.heap.size) (by omega)).trans Bw_.out)
  replace Bg := Lib.hid ((hb.block (w7.heap.size) (by omega)).trans Bg.out)
  replace T := Lib.hid (T.out.trans (hb.mono (by omega)))
  clear hb
  have QRT1 : Hid (∀ k, Value.ownBlock (.slice (some ⟨w11.heap.size, 0, none⟩) n1 n1) = some k → w11.heap.size ≤ k ∧ k < w12.heap.size) := Lib.hid hr.lt
  have RT1 := Lib.hid hr
  clear hr
  go_wp2_with fail
  refine (eqIntS_same _ _ _ _ _ _ _ (X1.out.ints L1.out) (RT1.out.ints L1.out)).mono ?_
  rintro e w13 ⟨rfl, hb⟩
  have sw13 := hb.size
  replace F0 := Lib.hid (F0.out.below hb (by omega))
  replace F1 := Lib.hid (F1.out.below hb (by omega))
  replace W_ := Lib.hid (W_.out.below hb (by omega))
  replace X0 := Lib.hid (X0.out.below hb)
  replace X1 := Lib.hid (X1.out.below hb)
  replace G := Lib.hid (G.out.below hb)
  replace RT1 := Lib.hid (RT1.out.below hb)
  replace Bw_ := Lib.hid ((hb.block (w3.heap.size) (by omega)).trans Bw_.out)
  replace Bg := Lib.hid ((hb.block (w7.heap.size) (by omega)).trans Bg.out)
  replace T := Lib.hid (T.out.trans (hb.mono (by omega)))
  clear hb
  clear RT1
  clear QRT1
  go_wp2_with fail
  refine (markIntS_n _ _ _ _ _ _ X0.out L0.out (by omega) (by omega) (by omega)).mono ?_
  rintro e w14 ⟨rfl, hr, hg⟩
  have sw14 := hg.size
  have hb := below_of_grown X0.out hg (by omega)
  replace F0 := Lib.hid (F0.out.below hb (by omega))
  replace F1 := Lib.hid (F1.out.below hb (by omega))
  replace W_ := Lib.hid (W_.out.below hb (by omega))
  replace X1 := Lib.hid (X1.out.kept hg (apart_of X1.out (fun k hk => by have := QX0.out k hk; omega)))
  replace G := Lib.hid (G.out.kept hg (apart_of G.out (fun k hk => by have := QX0.out k hk; omega)))
  replace Bw_ := Lib.hid ((hg.block (w3.heap.size) (by omega) (fun e => by have := QX0.out _ e.symm; omega)).trans Bw_.out)
  replace Bg := Lib.hid ((hg.block (w7.heap.size) (by omega) (fun e => by have := QX0.out _ e.symm; omega)).trans Bg.out)
  replace T := Lib.hid (T.out.trans (hb.mono (by omega)))
  clear hr hg hb X0 QX0
  go_wp2_with fail
  refine (markIntS_n _ _ _ _ _ _ X1.out L1.out (by omega) (by omega) (by omega)).mono ?_
  rintro e w15 ⟨rfl, hr, hg⟩
  have sw15 := hg.size
  have hb := below_of_grown X1.out hg (by omega)
  replace F0 := Lib.hid (F0.out.below hb (by omega))
  replace F1 := Lib.hid (F1.out.below hb (by omega))
  replace W_ := Lib.hid (W_.out.below hb (by omega))
  replace G := Lib.hid (G.out.kept hg (apart_of G.out (fun k hk => by have := QX1.out k hk; omega)))
  replace Bw_ := Lib.hid ((hg.block (w3.heap.size) (by omega) (fun e => by have := QX1.out _ e.symm; omega)).trans Bw_.out)
  replace Bg := Lib.hid ((hg.block (w7.heap.size) (by omega) (fun e => by have := QX1.out _ e.symm; omega)).trans Bg.out)
  replace T := Lib.hid (T.out.trans (hb.mono (by omega)))
  clear hr hg hb X1 QX1
  obtain ⟨⟨Bgx, Bgy, Bgz⟩, -⟩ := cells3 Bg.out
  obtain ⟨⟨Bw_x, Bw_y, Bw_z⟩, -⟩ := cells3 Bw_.out
  go_wp2_with fail
  clear Bgx Bgy Bgz Bw_x Bw_y Bw_z
  refine (eqMat_same _ R C _ _ _ _ _ _ (G.out.ints hn.out) (W_.out.le (by omega))).mono ?_
  rintro e w16 ⟨rfl, hb⟩
  have sw16 := hb.size
  replace F0 := Lib.hid (F0.out.below hb (by omega))
  replace F1 := Lib.hid (F1.out.below hb (by omega))
  replace W_ := Lib.hid (W_.out.below hb (by omega))
  replace G := Lib.hid (G.out.below hb)
  replace Bw_ := Lib.hid ((hb.block (w3.heap.size) (by omega)).trans Bw_.out)
  replace Bg := Lib.hid ((hb.block (w7.heap.size) (by omega)).trans Bg.out)
  replace T := Lib.hid (T.out.trans (hb.mono (by omega)))
  clear hb
  obtain ⟨⟨Bgx, Bgy, Bgz⟩, -⟩ := cells3 Bg.out
  go_wp2_with fail
  clear Bgx Bgy Bgz
  refine (markMat_n _ _ R C _ _ _ _ _ G.out hn.out (by omega) (by omega) (by omega)).mono ?_
  rintro e w17 ⟨rfl, hr, hg⟩
  have sw17 := hg.size
  have hb := below_of_grown G.out hg (by omega)
  replace F0 := Lib.hid (F0.out.below hb (by omega))
  replace F1 := Lib.hid (F1.out.below hb (by omega))
  replace W_ := Lib.hid (W_.out.below hb (by omega))
  replace Bw_ := Lib.hid ((hg.block (w3.heap.size) (by omega) (fun e => by have := QG.out _ e.symm; omega)).trans Bw_.out)
  replace Bg := Lib.hid ((hg.block (w7.heap.size) (by omega) (fun e => by have := QG.out _ e.symm; omega)).trans Bg.out)
  replace T := Lib.hid (T.out.trans (hb.mono (by omega)))
  replace G := Lib.hid hr
  clear hr hg hb
  have hm := Lib.hid (marks_length 1 nz)
  obtain ⟨⟨Bgx, Bgy, Bgz⟩, -⟩ := cells3 Bg.out
  go_wp2_with fail
  clear Bgx Bgy Bgz
  refine (heldMat_any _ R C _ _ _ _ (G.out.ints hm.out) (by omega) (by omega)).mono ?_
  rintro e w18 ⟨rfl, hb⟩
  have sw18 := hb.size
  replace F0 := Lib.hid (F0.out.below hb (by omega))
  replace F1 := Lib.hid (F1.out.below hb (by omega))
  replace W_ := Lib.hid (W_.out.below hb (by omega))
  replace G := Lib.hid (G.out.below hb)
  replace Bw_ := Lib.hid ((hb.block (w3.heap.size) (by omega)).trans Bw_.out)
  replace Bg := Lib.hid ((hb.block (w7.heap.size) (by omega)).trans Bg.out)
  replace T := Lib.hid (T.out.trans (hb.mono (by omega)))
  clear hb
  go_wp2_with fail
  refine (toIntS_any _ _ a0 n0 c0 xs0 F0.out (by omega)).mono ?_
  rintro e w19 ⟨rfl, hr, hb⟩
  have sw19 := hb.size
  replace F0 := Lib.hid (F0.out.below hb (by omega))
  replace F1 := Lib.hid (F1.out.below hb (by omega))
  replace W_ := Lib.hid (W_.out.below hb (by omega))
  replace G := Lib.hid (G.out.below hb)
  replace Bw_ := Lib.hid ((hb.block (w3.heap.size) (by omega)).trans Bw_.out)
  replace Bg := Lib.hid ((hb.block (w7.heap.size) (by omega)).trans Bg.out)
  replace T := Lib.hid (T.out.trans (hb.mono (by omega)))
  clear hb
  have QRT0 : Hid (∀ k, Value.ownBlock (.slice (some ⟨w18.heap.size, 0, none⟩) n0 n0) = some k → w18.heap.size ≤ k ∧ k < w19.heap.size) := Lib.hid hr.lt
  have RT0 := Lib.hid hr
  clear hr
  go_wp2_with fail
  refine (toIntS_any _ _ a1 n1 c1 xs1 F1.out (by omega)).mono ?_
  rintro e w20 ⟨rfl, hr, hb⟩
  have sw20 := hb.size
  replace F0 := Lib.hid (F0.out.below hb (by omega))
  replace F1 := Lib.hid (F1.out.below hb (by omega))
  replace W_ := Lib.hid (W_.out.below hb (by omega))
  replace G := Lib.hid (G.out.below hb)
  replace RT0 := Lib.hid (RT0.out.below hb)
  replace Bw_ := Lib.hid ((hb.block (w3.heap.size) (by omega)).trans Bw_.out)
  replace Bg := Lib.hid ((hb.block (w7.heap.size) (by omega)).trans Bg.out)
  replace T := Lib.hid (T.out.trans (hb.mono (by omega)))
  clear hb
  have QRT1 : Hid (∀ k, Value.ownBlock (.slice (some ⟨w19.heap.size, 0, none⟩) n1 n1) = some k → w19.heap.size ≤ k ∧ k < w20.heap.size) := Lib.hid hr.lt
  have RT1 := Lib.hid hr
  clear hr
  go_wp2_with fail
  refine (P.out _ _ _ (RT0.out.ints L0.out) (RT1.out.ints L1.out) (HE.out.below hlt T.out)).mono ?_
  rintro e w21 ⟨vh, rfl, hr, hb⟩
  have sw21 := hb.size
  replace F0 := Lib.hid (F0.out.below hb (by omega))
  replace F1 := Lib.hid (F1.out.below hb (by omega))
  replace W_ := Lib.hid (W_.out.below hb (by omega))
  replace G := Lib.hid (G.out.below hb)
  replace RT0 := Lib.hid (RT0.out.below hb)
  replace RT1 := Lib.hid (RT1.out.below hb)
  replace Bw_ := Lib.hid ((hb.block (w3.heap.size) (by omega)).trans Bw_.out)
  replace Bg := Lib.hid ((hb.block (w7.heap.size) (by omega)).trans Bg.out)
  replace T := Lib.hid (T.out.trans (hb.mono (by omega)))
  clear hb
  obtain ⟨ah, ch, rfl, hi⟩ := hr.form' hn (by omega)
  have H := Lib.hid hi
  clear hr hi
  clear RT0
  clear QRT0
  clear RT1
  clear QRT1
  obtain ⟨⟨Bw_x, Bw_y, Bw_z⟩, -⟩ := cells3 ((Below.heap_alloc w21 (.cells #[.int .i64 R, .int .i64 C, .slice ah nz ch] 26 (0, 0)) (w3.heap.size) (by omega)).trans Bw_.out)
  go_wp2_with fail
  clear Bw_x Bw_y Bw_z
  have hb := (Below.refl w21.heap.size w21).alloc (Nat.le_refl _) (.cells #[.int .i64 R, .int .i64 C, .slice ah nz ch] 26 (0, 0))
  have hk := heap_alloc_new w21 (.cells #[.int .i64 R, .int .i64 C, .slice ah nz ch] 26 (0, 0))
  have szw22 : w21.heap.size < (w21.alloc (.cells #[.int .i64 R, .int .i64 C, .slice ah nz ch] 26 (0, 0))).heap.size := by simp
  generalize w21.alloc (.cells #[.int .i64 R, .int .i64 C, .slice ah nz ch] 26 (0, 0)) = w22 at hb hk szw22 ⊢
  have sw22 := hb.size
  replace F0 := Lib.hid (F0.out.below hb (by omega))
  replace F1 := Lib.hid (F1.out.below hb (by omega))
  replace W_ := Lib.hid (W_.out.below hb (by omega))
  replace H := Lib.hid (H.out.below hb (by omega))
  replace G := Lib.hid (G.out.below hb)
  replace Bw_ := Lib.hid ((hb.block (w3.heap.size) (by omega)).trans Bw_.out)
  replace Bg := Lib.hid ((hb.block (w7.heap.size) (by omega)).trans Bg.out)
  replace T := Lib.hid (T.out.trans (hb.mono (by omega)))
  clear hb
  have Bh := Lib.hid hk
  clear hk
  refine (eqMat_same _ R C _ _ _ _ _ _ (H.out.le (by omega)) (W_.out.le (by omega))).mono ?_
  rintro e w23 ⟨rfl, hb⟩
  have sw23 := hb.size
  replace F0 := Lib.hid (F0.out.below hb (by omega))
  replace F1 := Lib.hid (F1.out.below hb (by omega))
  replace W_ := Lib.hid (W_.out.below hb (by omega))
  replace H := Lib.hid (H.out.below hb (by omega))
  replace G := Lib.hid (G.out.below hb)
  replace Bw_ := Lib.hid ((hb.block (w3.heap.size) (by omega)).trans Bw_.out)
  replace Bg := Lib.hid ((hb.block (w7.heap.size) (by omega)).trans Bg.out)
  replace Bh := Lib.hid ((hb.block (w21.heap.size) (by omega)).trans Bh.out)
  replace T := Lib.hid (T.out.trans (hb.mono (by omega)))
  clear hb
  obtain ⟨⟨Bgx, Bgy, Bgz⟩, -⟩ := cells3 Bg.out
  go_wp2_with fail
  clear Bgx Bgy Bgz
  refine (heldMat_any _ R C _ _ _ _ (G.out.ints hm.out) (by omega) (by omega)).mono ?_
  rintro e w24 ⟨rfl, hb⟩
  have sw24 := hb.size
  replace F0 := Lib.hid (F0.out.below hb (by omega))
  replace F1 := Lib.hid (F1.out.below hb (by omega))
  replace W_ := Lib.hid (W_.out.below hb (by omega))
  replace H := Lib.hid (H.out.below hb (by omega))
  replace G := Lib.hid (G.out.below hb)
  replace Bw_ := Lib.hid ((hb.block (w3.heap.size) (by omega)).trans Bw_.out)
  replace Bg := Lib.hid ((hb.block (w7.heap.size) (by omega)).trans Bg.out)
  replace Bh := Lib.hid ((hb.block (w21.heap.size) (by omega)).trans Bh.out)
  replace T := Lib.hid (T.out.trans (hb.mono (by omega)))
  clear hb
  go_wp2_with fail
  go_ret
  exact ⟨rfl, T.out⟩
set_option maxRecDepth 100000 in
theorem lawOuter_any (w : World) (a0 : Option Addr) (n0 c0 : Nat) (a1 : Option Addr) (n1 c1 : Nat) (m0 : n0 ≤ 9223372036854775807) (k0 : CameIn w a0 n0) (m1 : n1 ≤ 9223372036854775807) (k1 : CameIn w a1 n1) (hE : LaidE w) :
    Calls Tryd.prog 6 #[.slice a0 n0 c0, .slice a1 n1 c1] w fun e w' => e = .returned (.bool true) ∧ Below w.heap.size w w' := by
  by_cases b0 : 1048576 < n0
  · have t : decide ((n0 : Int) > 1048576) = true := decide_eq_true (by omega)
    clear k0 k1
    go_enter Tryd.func6, Tryd.ntmps6
    go_wp2_with fail
    go_ret
    exact ⟨rfl, Below.refl _ _⟩
  by_cases b1 : 1048576 < n1
  · have t : decide ((n1 : Int) > 1048576) = true := decide_eq_true (by omega)
    clear k0 k1
    have t0 : decide ((n0 : Int) > 1048576) = false := decide_eq_false (by omega)
    go_enter Tryd.func6, Tryd.ntmps6
    go_wp2_with fail
    go_ret
    exact ⟨rfl, Below.refl _ _⟩
  obtain ⟨xs0, e0, d0⟩ := k0
  obtain ⟨xs1, e1, d1⟩ := k1
  exact lawOuter_small w a0 n0 c0 xs0 a1 n1 c1 xs1 ⟨e0, by omega, d0⟩ ⟨e1, by omega, d1⟩ hE
end Go.Proofs.YtdmkbmpgcpggdaaDoor
