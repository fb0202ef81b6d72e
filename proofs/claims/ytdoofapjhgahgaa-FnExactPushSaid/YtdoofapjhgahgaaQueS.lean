/-
  Queues: the model's QueueOk and QueueWords.
-/
import Derived.Test.YtdoofapjhgahgaaQueM
import Derived.Test.YtdoofapjhgahgaaIns
import Derived.Deep.QuietTactic
import Derived.BigQuiet
namespace Go.Proofs.Ytdoofapjhgahgaa
open Go.RowKit Go.Sort
set_option linter.unusedVariables false
set_option linter.unusedSimpArgs false

theorem boxq {w : World} {g : Nat} {x y : Value} {T : TypeId} (h : w.heap[g]? = some (.cells #[x, y] T (0, 0))) : w.cell? ⟨g, 0, none⟩ = some x ∧ w.cell? ⟨g, 1, none⟩ = some y := by
  refine ⟨?_, ?_⟩ <;> rw [cell_of_row _ _ _ _ _ _ h] <;> rfl
set_option maxRecDepth 100000 in
set_option maxHeartbeats 3200000 in
theorem specQueueOk_c (w : World) (cap : Int) (a : Option Addr) (n c : Nat) (l : List dItem) (h : ListAt shItem (Under w.heap.size) w a n l) (hn : n ≤ 1048576) (hb : Shape.sum shItem.bulk l ≤ 1048576) :
    Calls Try.prog 11 #[.agg #[.int .i64 cap, .slice a n c]] w fun e w' => e = .returned (.bool (queueOkB (cap, l))) ∧ Below w.heap.size w w' := by
  obtain ⟨R, hR⟩ : ∃ R, queueOkB (cap, l) = R := ⟨_, rfl⟩
  rw [hR]
  have hal : Below w.heap.size w (w.alloc (.cells #[.int .i64 cap, .slice a n c] 26 (0, 0))) := (Below.refl _ _).alloc (Nat.le_refl _) _
  have hb0 := heap_alloc_new w (.cells #[.int .i64 cap, .slice a n c] 26 (0, 0))
  have hL := (h.below hal (Nat.le_refl _)).le hal.size
  have HA := Lib.hid hal
  have HB0 := Lib.hid hb0
  have HL := Lib.hid hL
  have HR := Lib.hid hR
  have HLEN := Lib.hid h.1
  have HBK := Lib.hid hb
  clear hal hb0 hL h hR hb
  go_enter Try.func11, Try.ntmps11
  go_wp2_with fail
  generalize w.alloc (.cells #[.int .i64 cap, .slice a n c] 26 (0, 0)) = wa at HA HB0 HL ⊢
  obtain ⟨z0, z1⟩ := boxq HB0.out
  go_loop [3] (fun i => ∃ k : Nat, k ≤ n ∧ i = .int .i64 k ∧ Hid (∀ (j : Nat) (x : dItem), j < k → l[j]? = some x → itemOkB x = true)) (fun i => n - (intOf i).toNat)
  case atStart => exact ⟨0, Nat.zero_le _, rfl, Lib.hid fun j x hj => absurd hj (Nat.not_lt_zero _)⟩
  case round =>
    obtain ⟨k, hk, rfl, hall⟩ := hrel
    by_cases hlt : k < n
    · obtain ⟨b, o, x, ax, nx, cx, hx, rfl, hbB, hc0, hc1, -, -, hlx⟩ := item_at HL.out k hlt
      have hbx := bulk_mem shItem.bulk l k x hx
      rw [shItem_bulk, bulk_ints, hlx.1] at hbx
      have hnx : nx ≤ 1048576 := by have := HBK.out; omega
      have hix := hlx.ints hnx
      obtain ⟨p, hp⟩ : ∃ p, vecOkB x.2 = p := ⟨_, rfl⟩
      obtain ⟨q, hq⟩ : ∃ q, inB 0 4 x.1 = q := ⟨_, rfl⟩
      have H1 := Lib.hid (hp ▸ specVecOk_any wa ax nx cx x.2 hix)
      have H2 := Lib.hid (hq ▸ l1In_any x.1 0 4 wa)
      obtain ⟨M, hM⟩ : ∃ M, x.1 = M := ⟨_, rfl⟩
      rw [hM] at hc0 H2
      have hio : itemOkB x = (p && q) := by unfold itemOkB; rw [hp, hq]
      have HX := Lib.hid hx
      have HIO := Lib.hid hio
      clear hx hlx hix hp hq hM hio hbx
      cases p
      · obtain rfl : R = false := by rw [← HR.out]; exact queueOk_at HX.out (by rw [HIO.out]; rfl)
        go_wp2_with fail
        refine H1.out.mono ?_
        rintro e w' ⟨rfl, rfl⟩
        go_wp2_with fail
        go_ret
        exact ⟨rfl, HA.out⟩
      · cases q
        · obtain rfl : R = false := by rw [← HR.out]; exact queueOk_at HX.out (by rw [HIO.out]; rfl)
          go_wp2_with fail
          refine H1.out.mono ?_
          rintro e w' ⟨rfl, rfl⟩
          go_wp2_with fail
          refine H2.out.mono ?_
          rintro e w' ⟨rfl, rfl⟩
          go_wp2_with fail
          go_ret
          exact ⟨rfl, HA.out⟩
        · go_wp2_with fail
          refine H1.out.mono ?_
          rintro e w' ⟨rfl, rfl⟩
          go_wp2_with fail
          refine H2.out.mono ?_
          rintro e w' ⟨rfl, rfl⟩
          go_wp2_with fail
          go_round
          case rel =>
            refine ⟨k + 1, by omega, by go_num, Lib.hid fun j y hj hy => ?_⟩
            by_cases e : j = k
            · subst e
              rw [HX.out] at hy
              cases hy
              rw [HIO.out]
              rfl
            · exact hall.out j y (by omega) hy
          case measure => simp [intOf]; omega
    · obtain rfl : k = n := by omega
      have hR2 : R = (inB 1 5 cap && decide ((k : Int) ≤ cap)) := by
        rw [← HR.out, queueOk_all fun j x hx => hall.out j x (by rw [← HLEN.out]; exact (List.getElem?_eq_some_iff.1 hx).1) hx, HLEN.out]
      obtain ⟨q, hq⟩ : ∃ q, inB 1 5 cap = q := ⟨_, rfl⟩
      have H2 := Lib.hid (hq ▸ l1In_any cap 1 5 wa)
      rw [hq] at hR2
      clear hq
      cases q
      · obtain rfl : R = false := by rw [hR2]; rfl
        clear hR2
        go_wp2_with fail
        refine H2.out.mono ?_
        rintro e w' ⟨rfl, rfl⟩
        go_wp2_with fail
        go_ret
        exact ⟨rfl, HA.out⟩
      · rw [Bool.true_and] at hR2
        have HR2 := Lib.hid hR2
        clear hR2
        go_wp2_with fail
        refine H2.out.mono ?_
        rintro e w' ⟨rfl, rfl⟩
        go_wp2_with fail
        go_ret
        exact ⟨by rw [HR2.out]; rfl, HA.out⟩

set_option maxRecDepth 100000 in
set_option maxHeartbeats 3200000 in
theorem specQueueWords_c (w : World) (cap : Int) (a : Option Addr) (n c : Nat) (l : List dItem) (h : ListAt shItem (Under w.heap.size) w a n l) (hn : n ≤ 1048576) (hb : Shape.sum shItem.bulk l ≤ 1048576) :
    Calls Try.prog 29 #[.agg #[.int .i64 cap, .slice a n c]] w fun e w' => e = .returned (.int .i64 (queueWordsN (cap, l))) ∧ Below w.heap.size w w' := by
  obtain ⟨R, hR⟩ : ∃ R, queueWordsN (cap, l) = R := ⟨_, rfl⟩
  rw [hR]
  obtain ⟨p, hp⟩ : ∃ p, queueOkB (cap, l) = p := ⟨_, rfl⟩
  have hal : Below w.heap.size w (w.alloc (.cells #[.int .i64 cap, .slice a n c] 26 (0, 0))) := (Below.refl _ _).alloc (Nat.le_refl _) _
  have hb0 := heap_alloc_new w (.cells #[.int .i64 cap, .slice a n c] 26 (0, 0))
  have hs0 : (w.alloc (.cells #[.int .i64 cap, .slice a n c] 26 (0, 0))).heap.size = w.heap.size + 1 := by simp
  have HA := Lib.hid hal
  have HB0 := Lib.hid hb0
  have HL := Lib.hid h
  have HLEN := Lib.hid h.1
  have HBK := Lib.hid hb
  have HQ := Lib.hid fun (wx : World) (hx : Below w.heap.size w wx) => hp ▸ specQueueOk_c wx cap a n c l ((h.below hx (Nat.le_refl _)).le hx.size) hn hb
  have hnb : ∀ k, k ≤ n → numsTo l k ≤ 1048576 := fun k hk => Nat.le_trans (numsTo_bulk l k (by rw [h.1]; exact hk)) hb
  have HNB := Lib.hid hnb
  have HRR : Hid (R = if p = true then (numsTo l n : Int) else 0) := Lib.hid (by rw [← hR, ← hp, ← h.1]; rfl)
  clear hal hb0 h hR hb hp hnb
  go_enter Try.func29, Try.ntmps29
  go_wp2_with fail
  generalize w.alloc (.cells #[.int .i64 cap, .slice a n c] 26 (0, 0)) = wa at HA HB0 hs0 ⊢
  go_loopw [3, 4] (fun s i wr => ∃ k : Nat, k ≤ n ∧ i = .int .i64 k ∧ s = .int .i64 (numsTo l k : Int) ∧ Below wa.heap.size wa wr ∧ (k = 0 ∨ p = true)) (fun _ i _ => n - (intOf i).toNat)
  case atStart => exact ⟨0, Nat.zero_le _, rfl, rfl, Below.refl _ _, .inl rfl⟩
  case round =>
    obtain ⟨k, hk, rfl, rfl, hb, hkp⟩ := hrel
    obtain ⟨z0, z1⟩ := boxq ((hb.block w.heap.size (by omega)).trans HB0.out)
    have hsb := HNB.out k hk
    obtain ⟨s, hs⟩ : ∃ s, numsTo l k = s := ⟨_, rfl⟩
    rw [hs] at hsb ⊢
    by_cases hlt : k < n
    · have hww : Below w.heap.size w wr := HA.out.trans (hb.mono HA.out.size)
      have HC := Lib.hid (HQ.out wr hww)
      cases p
      · obtain rfl : k = 0 := by rcases hkp with h | h; exact h; cases h
        obtain rfl : s = 0 := by rw [← hs]; rfl
        obtain rfl : R = 0 := by rw [HRR.out]; rfl
        have HB := Lib.hid hb
        have HWW := Lib.hid hww
        clear hb hww hs hkp
        go_wp2_with fail
        refine HC.out.mono ?_
        rintro e w1 ⟨rfl, hb⟩
        have HF := Lib.hid (HWW.out.trans (hb.mono HWW.out.size))
        clear hb
        go_wp2_with fail
        go_ret
        exact ⟨rfl, HF.out⟩
      · obtain ⟨b, o, x, ax, nx, cx, hx, rfl, hbB, hc0, hc1, -, -, hlx⟩ := item_at HL.out k hlt
        have hnum : numsTo l (k + 1) = s + nx := by
          rw [numsTo, hs]
          have : l.getD k (0, []) = x := by rw [List.getD_eq_getElem?_getD, hx]; rfl
          rw [this, hlx.1]
        have hsb1 := HNB.out (k + 1) (by omega)
        rw [hnum] at hsb1
        have HNUM := Lib.hid hnum
        have HB := Lib.hid hb
        have HWW := Lib.hid hww
        have HC1 := Lib.hid hc1
        clear hb hww hs hkp hx hc0 hc1 hlx hnum
        go_wp2_with fail
        refine HC.out.mono ?_
        rintro e w1 ⟨rfl, hb⟩
        have hb1 := HB.out.trans (hb.mono HB.out.size)
        have hw1 := HWW.out.trans (hb.mono HWW.out.size)
        have d1 := (hw1.cell (p := ⟨b, o + k * 2 + 1, none⟩) hbB).trans HC1.out
        obtain ⟨z0, z1⟩ := boxq ((hb1.block w.heap.size (by omega)).trans HB0.out)
        have HB1 := Lib.hid hb1
        clear hb hb1 hw1
        go_wp2_with fail
        go_roundw
        case rel => exact ⟨k + 1, by omega, by go_num, by rw [HNUM.out]; simp, HB1.out, by first | exact .inr rfl | exact .inr trivial⟩
        case measure => simp [intOf]; omega
    · obtain rfl : k = n := by omega
      have hfin : R = (s : Int) := by
        rw [HRR.out]
        cases p
        · obtain rfl : k = 0 := by rcases hkp with h | h; exact h; cases h
          rw [← hs]
          rfl
        · rw [if_pos rfl, hs]
      subst hfin
      have HF := Lib.hid (HA.out.trans (hb.mono HA.out.size))
      clear hb hs
      go_wp2_with fail
      go_ret
      exact ⟨rfl, HF.out⟩
end Go.Proofs.Ytdoofapjhgahgaa
