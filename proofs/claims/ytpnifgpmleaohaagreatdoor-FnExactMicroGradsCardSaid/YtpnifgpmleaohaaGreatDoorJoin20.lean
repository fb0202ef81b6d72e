/-
  The program's Transpose.
-/
import Derived.Test.YtpnifgpmleaohaaGreatDoorJoin17
import Derived.Deep.DeepCutAuto
namespace Go.Proofs.YtpnifgpmleaohaaGreatDoor
open Go.RowKit
set_option linter.unusedVariables false

set_option maxRecDepth 100000 in
set_option maxHeartbeats 1600000 in
theorem implTranspose_any (w : World) (r c : Int) (a : Option Addr) (n cp : Nat) (xs : List Int) (h : IntsIn w.heap.size w a n xs) (hcp : n ≤ cp) (hcap : cp ≤ 9223372036854775807) :
    Calls Tryz.prog 286 #[.agg #[.int .i64 r, .int .i64 c, .slice a n cp]] w (MatV w (trR r c xs) (trC r c xs) (trN r c xs)) := by
  obtain ⟨i0, hi, hz0, hz1, hz2⟩ := info_parts Tryz.infoI64
  have hal : Below w.heap.size w ((w.alloc (.cells #[.int .i64 r, .int .i64 c, .slice a n cp] 245 (0, 0))).alloc (.cells #[.int .i64 0, .int .i64 0, .slice none 0 0] 245 (0, 0))) := ((Below.refl _ _).alloc (Nat.le_refl _) _).alloc (by simp) _
  have hb0 : ((w.alloc (.cells #[.int .i64 r, .int .i64 c, .slice a n cp] 245 (0, 0))).alloc (.cells #[.int .i64 0, .int .i64 0, .slice none 0 0] 245 (0, 0))).heap[w.heap.size]? = some (.cells #[.int .i64 r, .int .i64 c, .slice a n cp] 245 (0, 0)) := by
    rw [Below.heap_alloc _ _ _ (by simp)]
    exact heap_alloc_new w _
  have hb1 : ((w.alloc (.cells #[.int .i64 r, .int .i64 c, .slice a n cp] 245 (0, 0))).alloc (.cells #[.int .i64 0, .int .i64 0, .slice none 0 0] 245 (0, 0))).heap[w.heap.size + 1]? = some (.cells #[.int .i64 0, .int .i64 0, .slice none 0 0] 245 (0, 0)) := by
    have := heap_alloc_new (w.alloc (.cells #[.int .i64 r, .int .i64 c, .slice a n cp] 245 (0, 0))) (.cells #[.int .i64 0, .int .i64 0, .slice none 0 0] 245 (0, 0))
    simpa using this
  have hsz : w.heap.size + 1 < ((w.alloc (.cells #[.int .i64 r, .int .i64 c, .slice a n cp] 245 (0, 0))).alloc (.cells #[.int .i64 0, .int .i64 0, .slice none 0 0] 245 (0, 0))).heap.size := by simp
  have hl := h.len
  have HX := Lib.hid (h.below hal (Nat.le_refl _))
  have HM := fun (w : World) (h : IntsIn w.heap.size w a n xs) => implMatOk_any w r c a n cp xs h hcp hcap
  have HA := Lib.hid hal
  have HB0 := Lib.hid hb0
  have HB1 := Lib.hid hb1
  clear h hal hb0 hb1
  unfold trR trC trN
  cases hm : matOkB r c xs with
  | false =>
    rw [hm] at HM
    replace HM := Lib.hid HM
    clear hm hl
    go_enter Tryz.func286, Tryz.ntmps286
    go_wp2_with fail
    generalize (w.alloc (.cells #[.int .i64 r, .int .i64 c, .slice a n cp] 245 (0, 0))).alloc (.cells #[.int .i64 0, .int .i64 0, .slice none 0 0] 245 (0, 0)) = wa at HX HA HB0 HB1 hsz ⊢
    have hsa := HA.out.size
    refine (HM.out _ (HX.out.le hsa)).mono ?_
    rintro e w1 ⟨rfl, hb⟩
    have hr := (hb.block (w.heap.size + 1) hsz).trans HB1.out
    have HB := Lib.hid hb
    obtain ⟨⟨d0, d1, d2⟩, f0, f1, f2⟩ := cells3 hr
    have HR := Lib.hid hr
    clear hb hr
    go_wp2_with fail
    refine bodyPost_ret (results_cell_row rfl _ _ (w.heap.size + 1) 245 #[.int .i64 0, .int .i64 0, .slice none 0 0] (0, 0) _ rfl ?_ Tryz.underlying245 rfl (by kernel_rfl)) rfl ?_
    · exact store3 HR.out _ _ _
    exact ⟨_, rfl, Row.nil _ _, (((HA.out.trans (HB.out.mono hsa)).setCell (by simp) _).setCell (by simp) _).setCell (by simp) _⟩
  | true =>
    obtain ⟨m, q, rfl, rfl, ⟨m1, m6⟩, ⟨q1, q6⟩, hn, ha⟩ := matOkB_has hm
    rw [hl] at hn
    rw [hm] at HM
    replace HM := Lib.hid HM
    simp only [if_true, Int.toNat_natCast]
    obtain ⟨F, hF⟩ : ∃ F : Nat → Nat → Int, (fun k i => xs.getD (i * q + k) 0) = F := ⟨_, rfl⟩
    have hFc : ∀ k, mapK (F k) m = colOf m q xs k := fun k => by rw [← hF]; rfl
    have hFp : ∀ k i, F k i = xs.getD (i * q + k) 0 := fun k i => by rw [← hF]
    rw [hF]
    have GF := Lib.hid hFc
    have GP := Lib.hid hFp
    have HN := Lib.hid hn
    clear hm hl ha hF hFc hFp hn
    go_enter Tryz.func286, Tryz.ntmps286
    go_wp2_with fail
    generalize (w.alloc (.cells #[.int .i64 m, .int .i64 q, .slice a n cp] 245 (0, 0))).alloc (.cells #[.int .i64 0, .int .i64 0, .slice none 0 0] 245 (0, 0)) = wa at HX HA HB0 HB1 hsz ⊢
    have hsa := HA.out.size
    refine (HM.out _ (HX.out.le hsa)).mono ?_
    rintro e w1 ⟨rfl, hb⟩
    have hr1 := (hb.block (w.heap.size + 1) hsz).trans HB1.out
    have hr0 := (hb.block w.heap.size (by omega)).trans HB0.out
    have hs1 := hb.size
    have HX1 := Lib.hid (HX.out.below hb hsa)
    have HA1 := Lib.hid (HA.out.trans (hb.mono hsa))
    obtain ⟨⟨d0, d1, d2⟩, -⟩ := cells3 hr0
    have HR0 := Lib.hid hr0
    have HR1 := Lib.hid hr1
    clear hb hr0 hr1 HX HA HB0 HB1
    go_upto_region 4 with fail
    clear d0 d1 d2
    have hb := (Below.refl w1.heap.size w1).alloc (Nat.le_refl _) (.cells #[.int .i64 q, .int .i64 m, .slice none 0 0] 245 (0, 0))
    have hbx := heap_alloc_new w1 (.cells #[.int .i64 q, .int .i64 m, .slice none 0 0] 245 (0, 0))
    have hs2 : w1.heap.size + 1 ≤ (w1.alloc (.cells #[.int .i64 q, .int .i64 m, .slice none 0 0] 245 (0, 0))).heap.size := by simp
    generalize w1.alloc (.cells #[.int .i64 q, .int .i64 m, .slice none 0 0] 245 (0, 0)) = wb at hb hbx hs2 ⊢
    have HBB := Lib.hid hb
    have HBX := Lib.hid hbx
    clear hb hbx
    obtain ⟨⟨d0, d1, d2⟩, -⟩ := cells3 ((HBB.out.block w.heap.size (by omega)).trans HR0.out)
    go_wp2_with fail
    clear d0 d1 d2
    go_loopw [17] (fun i wr => ∃ (j : Nat) (v : Value), j ≤ q ∧ i = .int .i64 j ∧ Row (w1.heap.size + 1) wr v (gridK F m j) ∧ wr.heap[w1.heap.size]? = some (.cells #[.int .i64 q, .int .i64 m, v] 245 (0, 0)) ∧ Below w1.heap.size w1 wr ∧ w1.heap.size + 1 ≤ wr.heap.size) (fun i _ => q - (intOf i).toNat)
    case atStart => exact ⟨0, .slice none 0 0, Nat.zero_le _, rfl, Row.nil _ _, HBX.out, HBB.out, hs2⟩
    case round =>
      obtain ⟨j, v, hj, rfl, hrow, hbx, hb, hs⟩ := hrel
      have HR := Lib.hid hrow
      have HX0 := Lib.hid hbx
      have HB := Lib.hid hb
      have hr0 := (hb.block w.heap.size (by omega)).trans HR0.out
      obtain ⟨⟨g0, g1, g2⟩, -⟩ := cells3 hr0
      have HR00 := Lib.hid hr0
      clear hrow hbx hb hr0
      by_cases hlj : j < q
      · go_wp2_with fail
        clear g0 g1 g2
        go_loopw [22] (fun k wr => ∃ (l : Nat) (u : Value), l ≤ m ∧ k = .int .i64 l ∧ Row (w1.heap.size + 1) wr u (gridK F m j ++ mapK (F j) l) ∧ wr.heap[w1.heap.size]? = some (.cells #[.int .i64 q, .int .i64 m, u] 245 (0, 0)) ∧ Below w1.heap.size w1 wr ∧ w1.heap.size + 1 ≤ wr.heap.size) (fun k _ => m - (intOf k).toNat)
        case atStart => exact ⟨0, v, Nat.zero_le _, rfl, by rw [mapK, List.append_nil]; exact HR.out, HX0.out, HB.out, hs⟩
        case round =>
          obtain ⟨l, u, hl, rfl, hrow, hbx, hb, hs'⟩ := hrel
          have hlen : (gridK F m j ++ mapK (F j) l).length = j * m + l := by rw [List.length_append, gridK_length, mapK_length]
          by_cases hll : l < m
          · have hp : l * q + j < n := by rw [HN.out]; exact place_lt hll hlj
            obtain ⟨b, o, rfl, hbB, hcell0⟩ := HX1.out.cells (l * q + j) hp
            obtain ⟨X, hX⟩ : ∃ X, X = xs.getD (l * q + j) 0 := ⟨_, rfl⟩
            obtain ⟨Q, hQ⟩ : ∃ Q, l * q = Q := ⟨_, rfl⟩
            have eF : F j l = X := by rw [GP.out, hX]
            have e2 : gridK F m j ++ mapK (F j) (l + 1) = (gridK F m j ++ mapK (F j) l) ++ [X] := by rw [mapK, eF, List.append_assoc]
            obtain ⟨P, hP⟩ : ∃ P, Q + j = P := ⟨_, rfl⟩
            rw [← hX, hQ, hP] at hcell0
            rw [hQ, hP] at hp
            have e1 : (l : Int) * (q : Int) = (Q : Int) := by rw [← hQ]; push_cast; rfl
            have hn36 : n ≤ 36 := by rw [HN.out]; exact le36 m6 q6
            have wQ : IntKind.i64.wrap (Q : Int) = (Q : Int) := by rw [IntKind.wrap_i64]; omega
            have wP : IntKind.i64.wrap ((Q : Int) + (j : Int)) = (P : Int) := by rw [IntKind.wrap_i64]; omega
            have HPP := Lib.hid hP
            clear hP
            obtain ⟨zs, hzs⟩ : ∃ zs, gridK F m j ++ mapK (F j) l = zs := ⟨_, rfl⟩
            have hz36 : zs.length ≤ 36 := by
              have h1 := place_lt hlj hll
              have h2 := le36 q6 m6
              rw [← hzs, hlen]
              omega
            rw [hzs] at hrow e2
            obtain ⟨a4, c4, rfl, -⟩ := hrow.form
            have hr0 := (hb.block w.heap.size (by omega)).trans HR0.out
            have hdr : Below wr.heap.size wr wr.drew := (Below.refl _ _).drew
            have hcell : wr.drew.cell? ⟨b, o + P, none⟩ = some (.int .i64 X) := (hb.cell (p := ⟨b, o + P, none⟩) (by show b < _; omega)).trans hcell0
            obtain ⟨⟨g0, g1, g2⟩, -⟩ := cells3 (show wr.drew.heap[w.heap.size]? = _ from hr0)
            obtain ⟨⟨d0, d1, d2⟩, f0, f1, f2⟩ := cells3 (show wr.drew.heap[w1.heap.size]? = _ from hbx)
            have HRD := Lib.hid (show Row (w1.heap.size + 1) (wr.alloc (.cells #[.int .i64 X] 3 (0, 0))).drew (.slice a4 zs.length c4) zs from World.ownsRow.alloc (show wr.drew.ownsRow _ _ _ _ _ _ from hrow.below hdr) _)
            have hBd : Below w1.heap.size w1 (wr.alloc (.cells #[.int .i64 X] 3 (0, 0))).drew := (hb.trans (hdr.mono (by omega))).alloc (by show w1.heap.size ≤ wr.heap.size; omega) _
            have HBD := Lib.hid hBd
            have hxd : (wr.alloc (.cells #[.int .i64 X] 3 (0, 0))).drew.heap[w1.heap.size]? = some (.cells #[.int .i64 q, .int .i64 m, .slice a4 zs.length c4] 245 (0, 0)) := (Below.heap_alloc _ _ _ (by show w1.heap.size < wr.heap.size; omega)).trans hbx
            have HXD := Lib.hid hxd
            have hnd : ∀ j u, (icells [X])[j]? = some u → ((wr.alloc (.cells #[.int .i64 X] 3 (0, 0))).drew).cell? ((⟨wr.heap.size, 0, none⟩ : Addr).add j) = some u := cell_num_put wr 3 X
            have HND := Lib.hid hnd
            have cx : (wr.alloc (.cells #[.int .i64 X] 3 (0, 0))).cell? ⟨w1.heap.size, 2, none⟩ = some (.slice a4 zs.length c4) := (cells3 hxd).1.2.2
            have hs5 : w1.heap.size + 1 ≤ ((wr.alloc (.cells #[.int .i64 X] 3 (0, 0))).drew).heap.size := by
              show w1.heap.size + 1 ≤ (wr.alloc (.cells #[.int .i64 X] 3 (0, 0))).heap.size
              rw [World.size_alloc]
              omega
            have HS5 := Lib.hid hs5
            clear hnd hs5
            have hsd : w1.heap.size + 1 ≤ wr.drew.heap.size := hs'
            have hwd : w.heap.size < wr.drew.heap.size := by show w.heap.size < wr.heap.size; omega
            have hbd : b < wr.drew.heap.size := by show b < wr.heap.size; omega
            have E2 := Lib.hid e2
            have HQ := Lib.hid hQ
            clear hX hQ eF e2 hcell0 hzs hlen hrow hbx hb hr0 hdr hBd hxd
            go_wp2_with fail
            go_region_law (first
              | (refine step_append_lies _ rfl (.tmp 26) (.tmp 37) 28 rfl (w1.heap.size + 1) 3 i0 (.int .i64 0) 1 8 Tryz.underlying28 hi hz0 hz1 hz2 rfl (by decide) _ _ _ (by simp [Act.eval]) HRD.out ⟨wr.heap.size, 0, none⟩ 1 1 (icells [X]) (by simp [Act.eval]) rfl HND.out (icells_one _) (by omega) (by unfold maxLen; omega) (by omega) (by simp; omega) _ rfl ?_; intro g cap w4 hown4 hgrow4 _ _; have hb4 := below_of_grown HRD.out hgrow4 (by simp; omega); have hx4 := (hb4.block w1.heap.size (Nat.lt_succ_self _)).trans HXD.out; have hs4 := Nat.le_trans HS5.out hb4.size; clear d0 d1 d2 f0 f1 f2; obtain ⟨⟨p0, p1, p2⟩, r0, r1, r2⟩ := cells3 hx4; have HX4 := Lib.hid hx4; have HB4 := Lib.hid (HBD.out.trans (hb4.mono (by omega))); have HO4 := Lib.hid hown4; clear hown4 hgrow4 hb4 hx4))
            all_goals
              go_wp2_with fail
              go_roundw
              case rel =>
                have hr : Row (w1.heap.size + 1) w4 (.slice (some ⟨g, 0, none⟩) (zs.length + 1) cap) (zs ++ [X]) := by
                  unfold Row
                  rw [icells_append, List.length_append]
                  exact HO4.out
                have hx := heap_setCell_same w4 w1.heap.size 2 _ _ (.slice (some ⟨g, 0, none⟩) (zs.length + 1) cap) HX4.out
                exact ⟨l + 1, .slice (some ⟨g, 0, none⟩) (zs.length + 1) cap, by omega, by go_num, by rw [E2.out]; exact hr.setBelow (Nat.lt_succ_self _) _, hx, HB4.out.setCell (Nat.le_refl _) _, by simp; omega⟩
              case measure => simp [intOf]; omega
          · obtain rfl : l = m := by omega
            have HR1 := Lib.hid hrow
            have HX1 := Lib.hid hbx
            have HB1 := Lib.hid hb
            clear hrow hbx hb
            go_wp2_with fail
            go_roundw
            case rel => exact ⟨j + 1, u, by omega, by go_num, HR1.out, HX1.out, HB1.out, hs'⟩
            case measure => simp [intOf]; omega
      · obtain rfl : j = q := by omega
        obtain ⟨a4, c4, rfl, -⟩ := HR.out.form
        obtain ⟨⟨d0, d1, d2⟩, f0, f1, f2⟩ := cells3 HX0.out
        have hr1 := (HB.out.block (w.heap.size + 1) (by omega)).trans HR1.out
        obtain ⟨⟨k0, k1, k2⟩, l0, l1, l2⟩ := cells3 hr1
        have HRR := Lib.hid hr1
        clear hr1
        go_wp2_with fail
        refine bodyPost_ret (results_cell_row rfl _ _ (w.heap.size + 1) 245 #[.int .i64 j, .int .i64 m, .slice a4 (gridK F m j).length c4] (0, 0) _ rfl ?_ Tryz.underlying245 rfl (by kernel_rfl)) rfl ?_
        · exact store3 HRR.out _ _ _
        exact ⟨_, rfl, (((HR.out.setBelow (by show w.heap.size + 1 < _; omega) _).setBelow (by show w.heap.size + 1 < _; omega) _).setBelow (by show w.heap.size + 1 < _; omega) _).le (by omega), (((HA1.out.trans (HB.out.mono (by omega))).setCell (by simp) _).setCell (by simp) _).setCell (by simp) _⟩
end Go.Proofs.YtpnifgpmleaohaaGreatDoor
