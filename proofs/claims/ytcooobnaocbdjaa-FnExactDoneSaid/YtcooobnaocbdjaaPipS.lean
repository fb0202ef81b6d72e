/-
  Pipes: the model's Left, Done and Next.
-/
import Derived.Test.YtcooobnaocbdjaaPipM
import Derived.Lib.QuietBelow
import Derived.Deep.QuietTactic
import Derived.Deep.RegionLaw
import Derived.BigQuiet
namespace Go.Proofs.Ytcooobnaocbdjaa
open Go.RowKit Go.Sort
set_option linter.unusedVariables false
set_option linter.unusedSimpArgs false

theorem pipe_in {w : World} {es : List Value} {p : dPipe} (h : shPipe.reads (Under w.heap.size) w es p) (hb : shPipe.bulk p ≤ 1048576) :
    ∃ a0 n0 c0 a1 n1 c1 a2 n2 c2 a3 n3 c3, es = [.slice a0 n0 c0, .slice a1 n1 c1, .slice a2 n2 c2, .slice a3 n3 c3] ∧
      (n0 ≤ 1048576 ∧ ListAt shPair (Under w.heap.size) w a0 n0 (batchP p) ∧ Shape.sum shPair.bulk (batchP p) ≤ 1048576) ∧
      (n1 ≤ 1048576 ∧ ListAt shStage (Under w.heap.size) w a1 n1 (stagesP p) ∧ Shape.sum shStage.bulk (stagesP p) ≤ 1048576) ∧
      (n2 ≤ 1048576 ∧ ListAt shQueue (Under w.heap.size) w a2 n2 (actsP p) ∧ Shape.sum shQueue.bulk (actsP p) ≤ 1048576) ∧
      (n3 ≤ 1048576 ∧ ListAt shQueue (Under w.heap.size) w a3 n3 (backsP p) ∧ Shape.sum shQueue.bulk (backsP p) ≤ 1048576) := by
  obtain ⟨a0, n0, c0, a1, n1, c1, a2, n2, c2, a3, n3, c3, rfl, ⟨p0, q0, l0⟩, ⟨p1, q1, l1⟩, ⟨p2, q2, l2⟩, ⟨p3, q3, l3⟩⟩ := shPipe_reads.1 h
  rw [shPipe_bulk, bulk_list shPair l0, bulk_list shStage l1, bulk_list shQueue l2, bulk_list shQueue l3] at hb
  exact ⟨_, _, _, _, _, _, _, _, _, _, _, _, rfl, ⟨by omega, l0, by show Shape.sum _ p.1 ≤ _; omega⟩, ⟨by omega, l1, by show Shape.sum _ p.2.1 ≤ _; omega⟩, ⟨by omega, l2, by show Shape.sum _ p.2.2.1 ≤ _; omega⟩, ⟨by omega, l3, by show Shape.sum _ p.2.2.2 ≤ _; omega⟩⟩
theorem boxp {w : World} {g : Nat} {x0 x1 x2 x3 : Value} {T : TypeId} (h : w.heap[g]? = some (.cells #[x0, x1, x2, x3] T (0, 0))) :
    w.cell? ⟨g, 0, none⟩ = some x0 ∧ w.cell? ⟨g, 1, none⟩ = some x1 ∧ w.cell? ⟨g, 2, none⟩ = some x2 ∧ w.cell? ⟨g, 3, none⟩ = some x3 :=
  ⟨by rw [cell_of_row _ _ _ _ _ _ h]; rfl, by rw [cell_of_row _ _ _ _ _ _ h]; rfl, by rw [cell_of_row _ _ _ _ _ _ h]; rfl, by rw [cell_of_row _ _ _ _ _ _ h]; rfl⟩
theorem boxs {w : World} {g : Nat} {cs : Array Value} {T : TypeId} (h : w.heap[g]? = some (.cells cs T (0, 0))) (i : Nat) (v : Value) (hv : cs[i]? = some v) : w.cell? ⟨g, i, none⟩ = some v := by
  rw [cell_of_row _ _ _ _ _ _ h]
  exact hv
theorem boxi {w : World} {g : Nat} {x y : Value} {T : TypeId} (h : w.heap[g]? = some (.cells #[x, y] T (0, 0))) : w.cell? ⟨g, 0, none⟩ = some x ∧ w.cell? ⟨g, 1, none⟩ = some y := by
  refine ⟨?_, ?_⟩ <;> rw [cell_of_row _ _ _ _ _ _ h] <;> rfl
theorem store2 {w : World} {g : Nat} {x y : Value} {T : TypeId} (h : w.heap[g]? = some (.cells #[x, y] T (0, 0))) (u v : Value) : ((w.setCell ⟨g, 0, none⟩ u).setCell ⟨g, 1, none⟩ v).heap[g]? = some (.cells #[u, v] T (0, 0)) :=
  heap_setCell_same _ g 1 _ T v (heap_setCell_same w g 0 _ T u h)
/-- What one stage reads as: its Pc and its plan. -/
theorem stage_pc {I : Nat → Prop} {w : World} {a : Option Addr} {n : Nat} {l : List dStage} (h : ListAt shStage I w a n l) (j : Nat) (hj : j < n) :
    ∃ b o x ax nx cx, l[j]? = some x ∧ a = some ⟨b, o, none⟩ ∧ I b ∧ w.cell? ⟨b, o + j * 14, none⟩ = some (.int .i64 (pcS x)) ∧ w.cell? ⟨b, o + j * 14 + 1, none⟩ = some (.slice ax nx cx) ∧ nx ≤ cx ∧ cx ≤ 9223372036854775807 ∧ ListAt shIns I w ax nx (planS x) := by
  obtain ⟨x, hx⟩ : ∃ x, l[j]? = some x := ⟨_, List.getElem?_eq_getElem (by rw [h.1]; exact hj)⟩
  obtain ⟨b, o, es, e, hb, hr, hs⟩ := h.2 j x hx
  obtain ⟨a0, n0, c0, a1, n1, c1, a2, n2, c2, a3, n3, c3, a4, n4, c4, a5, n5, c5, a6, n6, c6, a7, n7, c7, a8, n8, c8, rfl, ⟨p0, q0, l0⟩, -⟩ := shStage_reads.1 hs
  rw [shStage_size] at hr
  refine ⟨b, o, x, a0, n0, c0, hx, e, hb, ?_, ?_, p0, q0, l0⟩
  · have := hr 0 _ rfl
    simpa using this
  · have := hr 1 _ rfl
    simpa using this
theorem leftS_neg {s : dStage} {n : Nat} (hn : (planS s).length = n) (h : pcS s ≤ 0) (h63 : n ≤ 9223372036854775807) : leftS s = n := by unfold leftS; rw [hn, show max 0 (pcS s) = 0 by omega, Int.sub_zero, IntWalk.wrap64_in _ (by omega)]; omega
theorem below_drewN {B : Nat} {w w' : World} (h : Below B w w') (n : Nat) : Below B w (w'.drewN n) := h.trans ⟨rfl, rfl, rfl, Nat.le_refl _, fun _ _ => rfl⟩
theorem leftS_pos {s : dStage} {n : Nat} (hn : (planS s).length = n) (h : 0 < pcS s) : leftS s = max 0 (wrap64 ((n : Int) - pcS s)) := by unfold leftS; rw [hn, show max 0 (pcS s) = pcS s by omega]
set_option maxRecDepth 100000 in
set_option maxHeartbeats 3200000 in
theorem specLeft_d (w : World) (es : List Value) (p : dPipe) (h : shPipe.reads (Under w.heap.size) w es p) (hb : shPipe.bulk p ≤ 1048576) :
    Calls Try.prog 14 #[.agg es.toArray] w fun e w' => e = .returned (.int .i64 (leftN p)) ∧ Below w.heap.size w w' := by
  obtain ⟨a0, n0, c0, a1, n1, c1, a2, n2, c2, a3, n3, c3, rfl, -, ⟨m1, l1, -⟩, -, -⟩ := pipe_in h hb
  obtain ⟨l, hl⟩ : ∃ l, stagesP p = l := ⟨_, rfl⟩
  obtain ⟨R, hR⟩ : ∃ R, leftN p = R := ⟨_, rfl⟩
  rw [hR]
  rw [hl] at l1
  have hRR : R = leftA l := by rw [← hR, ← hl]; rfl
  have hal := (Below.refl w.heap.size w).alloc (Nat.le_refl _) (.cells #[.slice a0 n0 c0, .slice a1 n1 c1, .slice a2 n2 c2, .slice a3 n3 c3] 35 (0, 0))
  have hb0 := heap_alloc_new w (.cells #[.slice a0 n0 c0, .slice a1 n1 c1, .slice a2 n2 c2, .slice a3 n3 c3] 35 (0, 0))
  have HL := Lib.hid (l1.below hal (Nat.le_refl _))
  have HN := Lib.hid l1.1
  have HA := Lib.hid hal
  have HB0 := Lib.hid hb0
  have HR := Lib.hid hRR
  clear h hb hl hR hRR hal hb0 l1
  go_enter Try.func14, Try.ntmps14
  go_wp2_with fail
  generalize w.alloc (.cells #[.slice a0 n0 c0, .slice a1 n1 c1, .slice a2 n2 c2, .slice a3 n3 c3] 35 (0, 0)) = wa at HL HA HB0 ⊢
  obtain ⟨-, z1, -, -⟩ := boxp HB0.out
  go_loopw [3, 4] (fun t i wr => ∃ k : Nat, k ≤ n1 ∧ i = .int .i64 k ∧ t = .int .i64 (leftA (l.take k)) ∧ Below wa.heap.size wa wr) (fun _ i _ => n1 - (intOf i).toNat)
  case atStart => exact ⟨0, Nat.zero_le _, rfl, rfl, Below.refl _ _⟩
  case round =>
    obtain ⟨k, hk, rfl, rfl, hbw⟩ := hrel
    have hww := HA.out.trans (hbw.mono HA.out.size)
    obtain ⟨-, z1, -, -⟩ := boxp ((hbw.block w.heap.size (by have := HA.out.size; have := World.block_lt_of_cell? wa ⟨w.heap.size, 1, none⟩ z1; exact this)).trans HB0.out)
    obtain ⟨T, hT⟩ : ∃ T, leftA (l.take k) = T := ⟨_, rfl⟩
    rw [hT]
    by_cases hlt : k < n1
    · obtain ⟨b, o, x, ax, nx, cx, hx, rfl, hbB, d0, d1, p1, p2, lx⟩ := stage_pc HL.out k hlt
      have e0 := (hbw.cell (p := ⟨b, o + k * 14, none⟩) (Nat.lt_of_lt_of_le hbB HA.out.size)).trans d0
      have e1 := (hbw.cell (p := ⟨b, o + k * 14 + 1, none⟩) (Nat.lt_of_lt_of_le hbB HA.out.size)).trans d1
      have hnext := leftA_next hx
      rw [hT] at hnext
      obtain ⟨M, hM⟩ : ∃ M, pcS x = M := ⟨_, rfl⟩
      rw [hM] at e0
      have HX := Lib.hid lx.1
      have HM := Lib.hid hM
      have HNX := Lib.hid hnext
      have HBW := Lib.hid hbw
      clear d0 d1 lx hM hnext hx hT hbw hww
      by_cases hm : 0 < M
      · obtain ⟨D, hD⟩ : ∃ D, wrap64 ((nx : Int) - M) = D := ⟨_, rfl⟩
        have HD := Lib.hid hD
        have HMM := Lib.hid (show 0 < M from by omega)
        by_cases hd : 0 < D
        · have HDD : Hid (max 0 D = D) := Lib.hid (by omega)
          go_upto_region 5 with fail
          go_quiet (fail)
          go_wp2_with fail
          go_round
          case rel => exact ⟨k + 1, by omega, by go_num, by rw [HNX.out, leftS_pos HX.out (by rw [HM.out]; exact HMM.out), HM.out, HD.out, HDD.out], below_drewN HBW.out _⟩
          case measure => simp [intOf]; omega
        · have HDD : Hid (max 0 D = 0) := Lib.hid (by omega)
          go_upto_region 5 with fail
          go_quiet (fail)
          go_wp2_with fail
          go_round
          case rel => exact ⟨k + 1, by omega, by go_num, by rw [HNX.out, leftS_pos HX.out (by rw [HM.out]; exact HMM.out), HM.out, HD.out, HDD.out, Int.add_zero], below_drewN HBW.out _⟩
          case measure => simp [intOf]; omega
      · have HMM := Lib.hid (show M ≤ 0 from by omega)
        have HNN := Lib.hid (show nx ≤ 9223372036854775807 from by omega)
        by_cases hd : 0 < nx
        · skip
          go_upto_region 5 with fail
          go_quiet (fail)
          go_wp2_with fail
          go_round
          case rel => exact ⟨k + 1, by omega, by go_num, by rw [HNX.out, leftS_neg HX.out (by rw [HM.out]; exact HMM.out) HNN.out], below_drewN HBW.out _⟩
          case measure => simp [intOf]; omega
        · have HN0 : Hid (nx = 0) := Lib.hid (by omega)
          go_upto_region 5 with fail
          go_quiet (fail)
          go_wp2_with fail
          go_round
          case rel => exact ⟨k + 1, by omega, by go_num, by rw [HNX.out, leftS_neg HX.out (by rw [HM.out]; exact HMM.out) HNN.out, HN0.out, Int.natCast_zero, Int.add_zero], below_drewN HBW.out _⟩
          case measure => simp [intOf]; omega
    · obtain rfl : k = n1 := by omega
      have hfin : R = T := by rw [HR.out, ← hT, List.take_of_length_le (Nat.le_of_eq HN.out)]
      subst hfin
      have HWW := Lib.hid hww
      clear hww hbw hT
      go_wp2_with fail
      go_ret
      exact ⟨rfl, HWW.out⟩
end Go.Proofs.Ytcooobnaocbdjaa
