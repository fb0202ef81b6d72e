/-
  Stages: the program's Ledger.
-/
import Derived.Test.YtpnifgpmleaohaaStgS
import Derived.Lib.QuietBelow
import Derived.Deep.QuietTactic
import Derived.BigQuiet
namespace Go.Proofs.Ytpnifgpmleaohaa
open Go.RowKit Go.Sort
set_option linter.unusedVariables false
set_option linter.unusedSimpArgs false

set_option maxRecDepth 100000 in
set_option maxHeartbeats 3200000 in
theorem implWordsIn_c (w : World) (a : Option Addr) (n c : Nat) (l : List dRow) (h : ListAt shRow (Under w.heap.size) w a n l) (hb : (Shape.list shRow).bulk l ≤ 1048576) :
    Calls Try.prog 73 #[.slice a n c] w fun e w' => e = .returned (.int .i64 (wordsR l : Nat)) ∧ Below w.heap.size w w' := by
  have hwb := wordsR_bulk l
  rw [bulk_list shRow h] at hb
  have hn : n ≤ 1048576 := by omega
  obtain ⟨R, hR⟩ : ∃ R, wordsR l = R := ⟨_, rfl⟩
  have hwq : ∀ q, wordsR (l.take q) ≤ wordsR l := fun q => sum_take_le _ _ _
  rw [hR] at hwb hwq ⊢
  have hRB : R ≤ 1048576 := by omega
  have HL := Lib.hid h
  have HLEN := Lib.hid h.1
  have HR := Lib.hid hR
  clear h hb hwb hR
  go_enter Try.func73, Try.ntmps73
  go_wp2_with fail
  go_loopw [3, 8] (fun t i wr => ∃ k : Nat, k ≤ n ∧ i = .int .i64 k ∧ t = .int .i64 ((wordsR (l.take k) : Nat) : Int) ∧ Below w.heap.size w wr) (fun _ i _ => n - (intOf i).toNat)
  case atStart => exact ⟨0, Nat.zero_le _, rfl, rfl, Below.refl _ _⟩
  case round =>
    obtain ⟨k, hk, rfl, rfl, hbw⟩ := hrel
    have hsz := hbw.size
    by_cases hlt : k < n
    · obtain ⟨b, o, y, ay, ny, cy, hy, rfl, hbB, hd0, -, -, hly⟩ := row_at HL.out k hlt
      have hst : wordsR (l.take (k + 1)) = wordsR (l.take k) + ny := by rw [← hly.1]; exact sum_take _ l k y hy
      have hle := hwq (k + 1)
      obtain ⟨U, hU⟩ : ∃ U, wordsR (l.take k) = U := ⟨_, rfl⟩
      have hUE : wordsR (l.take (k + 1)) = U + ny := by omega
      have hUB : U + ny ≤ 1048576 := by omega
      have e0 := (hbw.cell (p := ⟨b, o + k, none⟩) hbB).trans hd0
      have HUE := Lib.hid hUE
      have HBW := Lib.hid (hbw.alloc hsz (.cells #[.slice ay ny cy] 88 (0, 0)))
      rw [hU]
      clear hy hly hst hle hU hUE hbw hd0
      go_wp2_with fail
      go_roundw
      case rel => exact ⟨k + 1, by omega, by go_num, by rw [HUE.out]; simp, HBW.out⟩
      case measure => simp [intOf]; omega
    · obtain rfl : k = n := by omega
      rw [List.take_of_length_le (Nat.le_of_eq HLEN.out), HR.out]
      have HBW := Lib.hid hbw
      clear hbw
      go_wp2_with fail
      go_ret
      exact ⟨rfl, HBW.out⟩
set_option maxRecDepth 100000 in
set_option maxHeartbeats 6400000 in
theorem implLedger_d (w : World) (es : List Value) (s : dStage) (h : shStage.reads (Under w.heap.size) w es s) (hb : shStage.bulk s ≤ 1048576) :
    Calls Try.prog 25 #[.agg es.toArray] w fun e w' => e = .returned (.int .i64 (ledgerN s)) ∧ Below w.heap.size w w' := by
  obtain ⟨a0, n0, c0, a1, n1, c1, a2, n2, c2, a3, n3, c3, a4, n4, c4, a5, n5, c5, a6, n6, c6, a7, n7, c7, a8, n8, c8, rfl, -, -, ⟨-, -, l2⟩, ⟨-, -, l3⟩, ⟨-, -, l4⟩, ⟨-, -, l5⟩, ⟨-, -, l6⟩, ⟨-, -, l7⟩, -⟩ := shStage_reads.1 h
  have hbr : (Shape.list shRow).bulk (fullS s) ≤ 1048576 := by rw [shStage_bulk] at hb; show (Shape.list shRow).bulk s.2.2.2.2.2.2.1 ≤ _; omega
  rw [shStage_bulk, bulk_list shSaved l2, bulk_list shRow l3, bulk_ints, bulk_ints, bulk_ints, bulk_ints, l4.1, l5.1, l6.1, l7.1] at hb
  obtain ⟨R, hR⟩ : ∃ R, ledgerN s = R := ⟨_, rfl⟩
  rw [hR]
  have hR2 : R = ((n4 + n5 + n6 + n7 + wordsH (stashS s) + wordsR (fullS s) : Nat) : Int) := by
    rw [← hR]
    unfold ledgerN
    rw [show (xS s).length = n4 from l4.1, show (yS s).length = n5 from l5.1, show (gS s).length = n6 from l6.1, show (dS s).length = n7 from l7.1]
  have hw2 := wordsH_bulk (stashS s)
  have hw3 := wordsR_bulk (fullS s)
  obtain ⟨l, hl⟩ : ∃ l, stashS s = l := ⟨_, rfl⟩
  obtain ⟨f, hf⟩ : ∃ f, fullS s = f := ⟨_, rfl⟩
  have hl' : s.2.2.2.2.2.1 = l := hl
  have hf' : s.2.2.2.2.2.2.1 = f := hf
  rw [hl] at hw2 hR2
  rw [hf] at hw3 hR2 hbr
  rw [hl'] at hb l2
  rw [hf'] at hb l3
  have hn2 : n2 ≤ 1048576 := by omega
  have htot : n4 + n5 + n6 + n7 + wordsH l + wordsR f ≤ 1048576 := by omega
  have hbs : Shape.sum shSaved.bulk l ≤ 1048576 := by omega
  obtain ⟨q0, hq0⟩ : ∃ q, s.1 = q := ⟨_, rfl⟩
  obtain ⟨q3, hq3⟩ : ∃ q, s.2.2.2.1 = q := ⟨_, rfl⟩
  obtain ⟨q4, hq4⟩ : ∃ q, s.2.2.2.2.1 = q := ⟨_, rfl⟩
  obtain ⟨q12, hq12⟩ : ∃ q, s.2.2.2.2.2.2.2.2.2.2.2.2.1 = q := ⟨_, rfl⟩
  obtain ⟨q13, hq13⟩ : ∃ q, s.2.2.2.2.2.2.2.2.2.2.2.2.2 = q := ⟨_, rfl⟩
  rw [hq0, hq3, hq4, hq12, hq13]
  have hal : Below w.heap.size w (w.alloc (.cells #[.int .i64 q0, .slice a0 n0 c0, .slice a1 n1 c1, .bool q3, .bool q4, .slice a2 n2 c2, .slice a3 n3 c3, .slice a4 n4 c4, .slice a5 n5 c5, .slice a6 n6 c6, .slice a7 n7 c7, .slice a8 n8 c8, .int .i64 q12, .bool q13] 34 (0, 0))) := (Below.refl _ _).alloc (Nat.le_refl _) _
  have hk0 := heap_alloc_new w (.cells #[.int .i64 q0, .slice a0 n0 c0, .slice a1 n1 c1, .bool q3, .bool q4, .slice a2 n2 c2, .slice a3 n3 c3, .slice a4 n4 c4, .slice a5 n5 c5, .slice a6 n6 c6, .slice a7 n7 c7, .slice a8 n8 c8, .int .i64 q12, .bool q13] 34 (0, 0))
  have hs0 : (w.alloc (.cells #[.int .i64 q0, .slice a0 n0 c0, .slice a1 n1 c1, .bool q3, .bool q4, .slice a2 n2 c2, .slice a3 n3 c3, .slice a4 n4 c4, .slice a5 n5 c5, .slice a6 n6 c6, .slice a7 n7 c7, .slice a8 n8 c8, .int .i64 q12, .bool q13] 34 (0, 0))).heap.size = w.heap.size + 1 := by simp
  have L2 := Lib.hid (l2.below hal (Nat.le_refl _))
  have L3 := Lib.hid (l3.below hal (Nat.le_refl _))
  have N2 := Lib.hid l2.1
  have HA := Lib.hid hal
  have K0 := Lib.hid hk0
  have HS0 := Lib.hid hs0
  have HR2 := Lib.hid hR2
  have HBS := Lib.hid hbs
  have HBR := Lib.hid hbr
  have HTOT := Lib.hid htot
  have hx4 : n4 + n5 + n6 + n7 + wordsR f ≤ 1048576 := by omega
  have HC3 := Lib.hid (fun (wx : World) (L : ListAt shRow (Under wx.heap.size) wx a3 n3 f) => implWordsIn_c wx a3 n3 c3 f L hbr)
  obtain ⟨F, hF⟩ : ∃ F, wordsR f = F := ⟨_, rfl⟩
  simp only [hF] at HC3 hx4 HR2 HTOT
  clear hR hR2 hw2 hw3 hl hf hl' hf' hb l2 l3 l4 l5 l6 l7 hq0 hq3 hq4 hq12 hq13 hal hk0 hs0 hbs htot h hbr hF
  go_enter Try.func25, Try.ntmps25
  go_upto_region 1 with fail
  generalize w.alloc (.cells #[.int .i64 q0, .slice a0 n0 c0, .slice a1 n1 c1, .bool q3, .bool q4, .slice a2 n2 c2, .slice a3 n3 c3, .slice a4 n4 c4, .slice a5 n5 c5, .slice a6 n6 c6, .slice a7 n7 c7, .slice a8 n8 c8, .int .i64 q12, .bool q13] 34 (0, 0)) = wa at L2 L3 HA K0 HS0 ⊢
  have k6 := cell_regrown (box14 K0.out 6 _ rfl)
  have k7 := cell_regrown (box14 K0.out 7 _ rfl)
  have k8 := cell_regrown (box14 K0.out 8 _ rfl)
  have k9 := cell_regrown (box14 K0.out 9 _ rfl)
  have k10 := cell_regrown (box14 K0.out 10 _ rfl)
  have cC := fun d os => Calls.regrown_of (w := wa) (d := d) (os := os) (HC3.out _ (((L3.out.le HA.out.size).below (below_regrown wa d os) (Nat.le_refl _)).le (below_regrown wa d os).size))
  have CC := Lib.hid cC
  clear cC
  obtain ⟨S0, hS0⟩ : ∃ S0, n4 + n5 + n6 + n7 + F = S0 := ⟨_, rfl⟩
  refine wp_region_quiet_below (by kernel_rfl) (by kernel_rfl) ?_
  repeat (go_big_quiet_step (with_reducible first | exact CC.out _ _))
  refine wpQuiet_nil ?_
  intro _ hw'
  obtain ⟨⟨dq, osq⟩, hw''⟩ := hw'
  subst hw''
  have hwq := below_regrown wa dq osq
  generalize grow (redrawn wa dq) osq = wn at hwq ⊢
  have HN := Lib.hid (HA.out.trans (hwq.mono HA.out.size))
  have hkn := Lib.hid ((hwq.block w.heap.size (by have := HS0.out; omega)).trans K0.out)
  have HWQ := Lib.hid hwq
  clear hwq k6 k7 k8 k9 k10 CC
  have hSI : (n4 : Int) + n5 + n6 + n7 + F = (S0 : Int) := by omega
  have htx : S0 + wordsH l ≤ 1048576 := by have := HTOT.out; omega
  have hrx : R = ((S0 + wordsH l : Nat) : Int) := by have := HR2.out; omega
  have HTX := Lib.hid htx
  have HRX := Lib.hid hrx
  have y5 := box14 hkn.out 5 _ rfl
  go_simp
  clear hSI hS0 hx4 htx hrx
  have hw2 : ∀ k, wordsH (l.take k) ≤ wordsH l := fun k => sum_take_le _ _ _
  go_wp2_with fail
  clear y5
  go_loopw [3, 28] (fun t i wr => ∃ k : Nat, k ≤ n2 ∧ i = .int .i64 k ∧ t = .int .i64 ((S0 + wordsH (l.take k) : Nat) : Int) ∧ Below wn.heap.size wn wr) (fun _ i _ => n2 - (intOf i).toNat)
  case atStart => exact ⟨0, Nat.zero_le _, rfl, rfl, Below.refl _ _⟩
  case round =>
    obtain ⟨k, hk, rfl, rfl, hbw⟩ := hrel
    have hsz := hbw.size
    have hsn := HN.out.size
    have hsa := HA.out.size
    by_cases hlt : k < n2
    · have L2n := L2.out.below (HWQ.out.trans (hbw.mono HWQ.out.size)) hsa
      obtain ⟨b, o, x, ax, nx, cx, hx, rfl, hbB, hc0, hc1, hnc, hc6, hlx⟩ := saved_at L2n k hlt
      have hbx := bulk_mem shSaved.bulk l k x hx
      have hwx := wordsR_bulk x.2
      rw [shSaved_bulk] at hbx
      have hbr : (Shape.list shRow).bulk x.2 ≤ 1048576 := by have := HBS.out; omega
      have hst : wordsH (l.take (k + 1)) = wordsH (l.take k) + wordsR x.2 := sum_take _ l k x hx
      have hle := hw2 (k + 1)
      have hal := (Below.refl wr.heap.size wr).alloc (Nat.le_refl _) (.cells #[.int .i64 x.1, .slice ax nx cx] 90 (0, 0))
      have hbk := heap_alloc_new wr (.cells #[.int .i64 x.1, .slice ax nx cx] 90 (0, 0))
      have HCX := Lib.hid (implWordsIn_c (wr.alloc (.cells #[.int .i64 x.1, .slice ax nx cx] 90 (0, 0))) ax nx cx x.2 ((hlx.below (hal.mono (Nat.le_trans hsn hsz)) (Nat.le_refl _)).le (Nat.le_trans (Nat.le_trans hsn hsz) hal.size)) hbr)
      obtain ⟨M, hM⟩ : ∃ M, x.1 = M := ⟨_, rfl⟩
      obtain ⟨W, hW⟩ : ∃ W, wordsR x.2 = W := ⟨_, rfl⟩
      rw [hM] at hc0 hal hbk HCX
      rw [hW] at HCX hst
      obtain ⟨U, hU⟩ : ∃ U, S0 + wordsH (l.take k) = U := ⟨_, rfl⟩
      have hUE : S0 + wordsH (l.take (k + 1)) = U + W := by omega
      have hUB : U + W ≤ 1048576 := by have := HTX.out; omega
      have HUE := Lib.hid hUE
      have HBW := Lib.hid (hbw.trans (hal.mono hsz))
      have HBK := Lib.hid hbk
      have hbs : wr.heap.size < (wr.alloc (.cells #[.int .i64 M, .slice ax nx cx] 90 (0, 0))).heap.size := by simp
      have HBZ := Lib.hid hbs
      rw [hU]
      clear hx hlx hbx hwx hst hle hU hUE hbw L2n hal hbk hM hW hbr hbs
      go_upto_region 5 with fail
      clear hc0 hc1
      generalize wr.alloc (.cells #[.int .i64 M, .slice ax nx cx] 90 (0, 0)) = wb at HCX HBW HBK HBZ ⊢
      have y1 := box14 HBK.out 1 _ rfl
      go_wp2_with fail
      refine HCX.out.mono ?_
      rintro e w2 ⟨rfl, hb2⟩
      have HB2 := Lib.hid (HBW.out.trans (hb2.mono HBW.out.size))
      clear hb2 y1
      go_wp2_with fail
      go_roundw
      case rel => exact ⟨k + 1, by omega, by go_num, by rw [HUE.out]; simp, HB2.out⟩
      case measure => simp [intOf]; omega
    · obtain rfl : k = n2 := by omega
      rw [List.take_of_length_le (Nat.le_of_eq N2.out), ← HRX.out]
      have HBW := Lib.hid (HN.out.trans (hbw.mono hsn))
      clear hbw
      go_wp2_with fail
      go_ret
      exact ⟨rfl, HBW.out⟩
end Go.Proofs.Ytpnifgpmleaohaa
