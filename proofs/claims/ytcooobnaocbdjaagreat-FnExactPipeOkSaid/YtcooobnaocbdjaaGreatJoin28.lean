/-
  Queues: the model's QueueOk and QueueWords.
-/
import Derived.Test.YtcooobnaocbdjaaGreatJoin20
import Derived.Test.YtcooobnaocbdjaaGreatJoin9
import Derived.Deep.QuietTactic
import Derived.BigQuiet
namespace Go.Proofs.YtcooobnaocbdjaaGreat
open Go.RowKit Go.Sort
set_option linter.unusedVariables false
set_option linter.unusedSimpArgs false

theorem boxq {w : World} {g : Nat} {x y : Value} {T : TypeId} (h : w.heap[g]? = some (.cells #[x, y] T (0, 0))) : w.cell? ⟨g, 0, none⟩ = some x ∧ w.cell? ⟨g, 1, none⟩ = some y := by
  refine ⟨?_, ?_⟩ <;> rw [cell_of_row _ _ _ _ _ _ h] <;> rfl
set_option maxRecDepth 100000 in
set_option maxHeartbeats 3200000 in
theorem specQueueOk_c (w : World) (cap : Int) (a : Option Addr) (n c : Nat) (l : List dItem) (h : ListAt shItem (Under w.heap.size) w a n l) (hn : n ≤ 1048576) (hb : Shape.sum shItem.bulk l ≤ 1048576) :
    Calls Tryz.prog 60 #[.agg #[.int .i64 cap, .slice a n c]] w fun e w' => e = .returned (.bool (queueOkB (cap, l))) ∧ Below w.heap.size w w' := by
  obtain ⟨R, hR⟩ : ∃ R, queueOkB (cap, l) = R := ⟨_, rfl⟩
  rw [hR]
  have hal : Below w.heap.size w (w.alloc (.cells #[.int .i64 cap, .slice a n c] 82 (0, 0))) := (Below.refl _ _).alloc (Nat.le_refl _) _
  have hb0 := heap_alloc_new w (.cells #[.int .i64 cap, .slice a n c] 82 (0, 0))
  have hL := (h.below hal (Nat.le_refl _)).le hal.size
  have HA := Lib.hid hal
  have HB0 := Lib.hid hb0
  have HL := Lib.hid hL
  have HR := Lib.hid hR
  have HLEN := Lib.hid h.1
  have HBK := Lib.hid hb
  clear hal hb0 hL h hR hb
  go_enter Tryz.func60, Tryz.ntmps60
  go_wp2_with fail
  generalize w.alloc (.cells #[.int .i64 cap, .slice a n c] 82 (0, 0)) = wa at HA HB0 HL ⊢
  obtain ⟨z0, z1⟩ := boxq HB0.out
  go_loop [3] (fun i => ∃ k : Nat, k ≤ n ∧ i = .int .i64 k ∧ Hid (∀ (j : Nat) (x : dItem), j < k → l[j]? = some x → itemOkB x = true)) (fun i => n - (intOf i).toNat)
  case atStart => exact ⟨0, Nat.zero_le _, rfl, Lib.hid fun j x hj => absurd hj (Nat.not_lt_zero _)⟩
  case round =>
    obtain ⟨k, hk, rfl, hall⟩ := hrel
    by_cases hlt : k < n
    · obtain ⟨b, o, x, ax, nx, cx, hx, rfl, hbB, hc0, hc1, -, -, hlx⟩ := item_at HL.out k hlt
      have hbx := bulk_mem shItem.bulk l k x hx
      rw [shItem_bulk, bulk_ints, hlx.1] at hbx
      have hnx : nx ≤ 1048576 := by have := HBK.out; omega
      have hix := hlx.ints hnx
      obtain ⟨p, hp⟩ : ∃ p, vecOkB x.2 = p := ⟨_, rfl⟩
      obtain ⟨q, hq⟩ : ∃ q, inB 0 4 x.1 = q := ⟨_, rfl⟩
      have H1 := Lib.hid (hp ▸ specVecOk_any wa ax nx cx x.2 hix)
      have H2 := Lib.hid (hq ▸ l1In_any x.1 0 4 wa)
      obtain ⟨M, hM⟩ : ∃ M, x.1 = M := ⟨_, rfl⟩
      rw [hM] at hc0 H2
      have hio : itemOkB x = (p && q) := by unfold itemOkB; rw [hp, hq]
      have HX := Lib.hid hx
      have HIO := Lib.hid hio
      clear hx hlx hix hp hq hM hio hbx
      cases p
      · obtain rfl : R = false := by rw [← HR.out]; exact queueOk_at HX.out (by rw [HIO.out]; rfl)
        go_wp2_with fail
        refine H1.out.mono ?_
        rintro e w' ⟨rfl, rfl⟩
        go_wp2_with fail
        go_ret
        exact ⟨rfl, HA.out⟩
      · cases q
        · obtain rfl : R = false := by rw [← HR.out]; exact queueOk_at HX.out (by rw [HIO.out]; rfl)
          go_wp2_with fail
          refine H1.out.mono ?_
          rintro e w' ⟨rfl, rfl⟩
          go_wp2_with fail
          refine H2.out.mono ?_
          rintro e w' ⟨rfl, rfl⟩
          go_wp2_with fail
          go_ret
          exact ⟨rfl, HA.out⟩
        · go_wp2_with fail
          refine H1.out.mono ?_
          rintro e w' ⟨rfl, rfl⟩
          go_wp2_with fail
          refine H2.out.mono ?_
          rintro e w' ⟨rfl, rfl⟩
          go_wp2_with fail
          go_round
          case rel =>
            refine ⟨k + 1, by omega, by go_num, Lib.hid fun j y hj hy => ?_⟩
            by_cases e : j = k
            · subst e
              rw [HX.out] at hy
              cases hy
              rw [HIO.out]
              rfl
            · exact hall.out j y (by omega) hy
          case measure => simp [intOf]; omega
    · obtain rfl : k = n := by omega
      have hR2 : R = (inB 1 5 cap && decide ((k : Int) ≤ cap)) := by
        rw [← HR.out, queueOk_all fun j x hx => hall.out j x (by rw [← HLEN.out]; exact (List.getElem?_eq_some_iff.1 hx).1) hx, HLEN.out]
      obtain ⟨q, hq⟩ : ∃ q, inB 1 5 cap = q := ⟨_, rfl⟩
      have H2 := Lib.hid (hq ▸ l1In_any cap 1 5 wa)
      rw [hq] at hR2
      clear hq
      cases q
      · obtain rfl : R = false := by rw [hR2]; rfl
        clear hR2
        go_wp2_with fail
        refine H2.out.mono ?_
        rintro e w' ⟨rfl, rfl⟩
        go_wp2_with fail
        go_ret
        exact ⟨rfl, HA.out⟩
      · rw [Bool.true_and] at hR2
        have HR2 := Lib.hid hR2
        clear hR2
        go_wp2_with fail
        refine H2.out.mono ?_
        rintro e w' ⟨rfl, rfl⟩
        go_wp2_with fail
        go_ret
        exact ⟨by rw [HR2.out]; rfl, HA.out⟩

end Go.Proofs.YtcooobnaocbdjaaGreat
