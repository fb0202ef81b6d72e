/-
  Pipes: the model's SamePipe: queues (mksams.py).
-/
import Derived.Test.YtcooobnaocbdjaaJoin26
import Derived.Test.YtcooobnaocbdjaaJoin27
import Derived.Lib.QuietBelow
namespace Go.Proofs.Ytcooobnaocbdjaa
open Go.RowKit Go.Sort
set_option linter.unusedVariables false
set_option linter.unusedSimpArgs false

set_option maxRecDepth 100000 in
set_option maxHeartbeats 6400000 in
theorem specSameQueues_c (w : World) (a : Option Addr) (n c : Nat) (xs : List dQueue) (h : ListAt shQueue (Under w.heap.size) w a n xs) (hn : n ≤ 1048576) (hb : Shape.sum shQueue.bulk xs ≤ 1048576) (a' : Option Addr) (n' c' : Nat) (ys : List dQueue) (h' : ListAt shQueue (Under w.heap.size) w a' n' ys) (hb' : Shape.sum shQueue.bulk ys ≤ 1048576) (R : Bool) (hR : R = true ↔ xs = ys) :
    Calls Try.prog 47 #[.slice a n c, .slice a' n' c'] w fun e w' => e = .returned (.bool R) ∧ Below w.heap.size w w' := by
  have HNO := Lib.hid fun (hn : ¬ xs = ys) => no_of hR hn
  have HYES := Lib.hid hR.2
  have HL := Lib.hid h
  have HL' := Lib.hid h'
  have HB := Lib.hid hb
  have HB' := Lib.hid hb'
  clear h h' hb hb' hR
  by_cases hnn : n = n'
  case neg =>
    have hne : ((n : Int) != (n' : Int)) = true := by simpa using fun e : (n : Int) = n' => hnn (by omega)
    obtain rfl : R = false := HNO.out fun e => hnn (by rw [← HL.out.1, ← HL'.out.1, e])
    clear hnn
    go_enter Try.func47, Try.ntmps47
    go_wp2_with fail
    go_ret
    exact ⟨rfl, Below.refl _ _⟩
  subst hnn
  go_enter Try.func47, Try.ntmps47
  go_wp2_with fail
  go_loopw [5] (fun i wr => ∃ k : Nat, k ≤ n ∧ i = .int .i64 k ∧ Hid (∀ j : Nat, j < k → xs[j]? = ys[j]?) ∧ Below w.heap.size w wr) (fun i _ => n - (intOf i).toNat)
  case atStart => exact ⟨0, Nat.zero_le _, rfl, Lib.hid fun j hj => absurd hj (Nat.not_lt_zero _), Below.refl _ _⟩
  case round =>
    obtain ⟨k, hk, rfl, hall, hbw⟩ := hrel
    have hsz := hbw.size
    by_cases hlt : k < n
    · obtain ⟨b, o, x, ax, nx, cx, hx, rfl, hbB, f0, f1, px, rx, lx⟩ := queue_at HL.out k hlt
      obtain ⟨b', o', y, ay, ny, cy, hy, rfl, hbB', g0, g1, py, ry, ly⟩ := queue_at HL'.out k hlt
      have hbx := bulk_mem shQueue.bulk xs k x hx
      have hby := bulk_mem shQueue.bulk ys k y hy
      rw [shQueue_bulk, bulk_list shItem lx] at hbx
      rw [shQueue_bulk, bulk_list shItem ly] at hby
      have hnx : nx ≤ 1048576 := by have := HB.out; omega
      have hny : ny ≤ 1048576 := by have := HB'.out; omega
      have HSX : Hid (Shape.sum shItem.bulk x.2 ≤ 1048576) := Lib.hid (by have := HB.out; omega)
      have HSY : Hid (Shape.sum shItem.bulk y.2 ≤ 1048576) := Lib.hid (by have := HB'.out; omega)
      obtain ⟨K, hK⟩ : ∃ K, x.1 = K := ⟨_, rfl⟩
      obtain ⟨K', hK'⟩ : ∃ K, y.1 = K := ⟨_, rfl⟩
      rw [hK] at f0
      rw [hK'] at g0
      have c0 := (hbw.cell (p := ⟨b, o + k * 2, none⟩) hbB).trans f0
      have c1 := (hbw.cell (p := ⟨b, o + k * 2 + 1, none⟩) hbB).trans f1
      have d0 := (hbw.cell (p := ⟨b', o' + k * 2, none⟩) hbB').trans g0
      have d1 := (hbw.cell (p := ⟨b', o' + k * 2 + 1, none⟩) hbB').trans g1
      have HX := Lib.hid hx
      have HY := Lib.hid hy
      have HK := Lib.hid hK
      have HK' := Lib.hid hK'
      have LX := Lib.hid lx
      have LY := Lib.hid ly
      have F1 := Lib.hid f1
      have G1 := Lib.hid g1
      have HNE := Lib.hid fun (hne : x ≠ y) => HNO.out fun e => by
        have h1 : xs[k]? = ys[k]? := by rw [e]
        rw [hx, hy] at h1
        exact hne (Option.some.inj h1)
      have HBW := Lib.hid hbw
      clear f0 f1 g0 g1 hx hy hK hK' lx ly hbx hby hbw px rx py ry
      by_cases e0 : K = K'
      case neg =>
        have k0 : (K != K') = true := by simpa using e0
        obtain rfl : R = false := HNE.out fun e => e0 (by rw [← HK.out, ← HK'.out, e])
        clear e0
        go_upto_region 6 with fail
        go_quiet (fail)
        go_wp2_with fail
        go_ret
        exact ⟨rfl, below_drewN HBW.out _⟩
      have k0 : (K != K') = false := by simpa using e0
      have E0 := Lib.hid e0
      clear e0
      by_cases e1 : nx = ny
      case neg =>
        have k1 : ((nx : Int) != (ny : Int)) = true := by simpa using fun e : (nx : Int) = ny => e1 (by omega)
        obtain rfl : R = false := HNE.out fun e => e1 (by rw [← LX.out.1, ← LY.out.1, e])
        clear e1
        go_upto_region 6 with fail
        go_quiet (fail)
        go_wp2_with fail
        go_ret
        exact ⟨rfl, below_drewN HBW.out _⟩
      subst e1
      go_upto_region 6 with fail
      go_quiet (fail)
      have hbn := below_drewN HBW.out nq
      have hszn : w.heap.size ≤ (wr.drewN nq).heap.size := hbn.size
      have HBN := Lib.hid hbn
      clear c0 c1 d0 d1 k0 hbn hsz
      generalize wr.drewN nq = wn at HBN hszn ⊢
      go_wp2_with fail
      go_loopw [6] (fun i wx => ∃ j : Nat, j ≤ nx ∧ i = .int .i64 j ∧ Hid (∀ t : Nat, t < j → x.2[t]? = y.2[t]?) ∧ Below w.heap.size w wx) (fun i _ => nx - (intOf i).toNat)
      case atStart => exact ⟨0, Nat.zero_le _, rfl, Lib.hid fun t ht => absurd ht (Nat.not_lt_zero _), HBN.out⟩
      case round =>
        obtain ⟨j, hj, rfl, hin, hbx⟩ := hrel
        have hsx := hbx.size
        have c1 := (hbx.cell (p := ⟨b, o + k * 2 + 1, none⟩) hbB).trans F1.out
        have d1 := (hbx.cell (p := ⟨b', o' + k * 2 + 1, none⟩) hbB').trans G1.out
        by_cases hlj : j < nx
        · obtain ⟨b2, o2, u, au, nu, cu, hu, rfl, hbB2, f0, f1, -, -, lu⟩ := item_at LX.out j hlj
          obtain ⟨b3, o3, v, av, nv, cv, hv, rfl, hbB3, g0, g1, -, -, lv⟩ := item_at LY.out j hlj
          have hbu := bulk_mem shItem.bulk _ j u hu
          have hbv := bulk_mem shItem.bulk _ j v hv
          rw [shItem_bulk, bulk_ints, lu.1] at hbu
          rw [shItem_bulk, bulk_ints, lv.1] at hbv
          have hnu : nu ≤ 1048576 := by have := HSX.out; omega
          have hnv : nv ≤ 1048576 := by have := HSY.out; omega
          obtain ⟨M, hM⟩ : ∃ K, u.1 = K := ⟨_, rfl⟩
          obtain ⟨M', hM'⟩ : ∃ K, v.1 = K := ⟨_, rfl⟩
          rw [hM] at f0
          rw [hM'] at g0
          have c2 := (hbx.cell (p := ⟨b2, o2 + j * 2, none⟩) hbB2).trans f0
          have c3 := (hbx.cell (p := ⟨b2, o2 + j * 2 + 1, none⟩) hbB2).trans f1
          have d2 := (hbx.cell (p := ⟨b3, o3 + j * 2, none⟩) hbB3).trans g0
          have d3 := (hbx.cell (p := ⟨b3, o3 + j * 2 + 1, none⟩) hbB3).trans g1
          obtain ⟨p, hp⟩ := bool_of (u.2 = v.2)
          have HC := Lib.hid fun (w2 : World) (hx : Below w.heap.size wr w2) => specSameVec_r w2 au nu cu u.2 av nv cv v.2 (((lu.ints hnu).below (hbx.trans hx) (Nat.le_refl _)).le (hbx.trans hx).size) (((lv.ints hnv).below (hbx.trans hx) (Nat.le_refl _)).le (hbx.trans hx).size) p hp
          have HU := Lib.hid hu
          have HV := Lib.hid hv
          have HM := Lib.hid hM
          have HM' := Lib.hid hM'
          have HP := Lib.hid hp
          have HNI := Lib.hid fun (hne : u ≠ v) => HNE.out fun e => by
            have h1 : x.2[j]? = y.2[j]? := by rw [e]
            rw [hu, hv] at h1
            exact hne (Option.some.inj h1)
          have HBX := Lib.hid hbx
          clear f0 f1 g0 g1 hu hv hM hM' lu lv hbu hbv hbx hp
          by_cases e2 : M = M'
          case neg =>
            have k2 : (M != M') = true := by simpa using e2
            obtain rfl : R = false := HNI.out fun e => e2 (by rw [← HM.out, ← HM'.out, e])
            clear e2
            go_upto_region 11 with fail
            have kk0 := cell_regrown c1
            have kk1 := cell_regrown d1
            have kk2 := cell_regrown c2
            have kk3 := cell_regrown c3
            have kk4 := cell_regrown d2
            have kk5 := cell_regrown d3
            have cC0 := fun d os => Calls.regrown_of (w := wr) (d := d) (os := os) (HC.out _ ((below_regrown wr d os).mono hsx))
            have CC0 := Lib.hid cC0
            clear c1 d1 c2 c3 d2 d3 cC0
            refine wp_region_quiet_below (by kernel_rfl) (by kernel_rfl) ?_
            repeat (go_big_quiet_step (with_reducible first | exact CC0.out _ _))
            refine wpQuiet_nil ?_
            intro _ hw'
            obtain ⟨⟨dq, osq⟩, hw''⟩ := hw'
            subst hw''
            have hwq := below_regrown wr dq osq
            generalize grow (redrawn wr dq) osq = wq at hwq ⊢
            have HW := Lib.hid hwq
            clear hwq kk0 kk1 kk2 kk3 kk4 kk5
            go_wp2_with fail
            go_ret
            exact ⟨rfl, HBX.out.trans (HW.out.mono hsx)⟩
          have k2 : (M != M') = false := by simpa using e2
          have E2 := Lib.hid e2
          clear e2
          cases p
          · obtain rfl : R = false := HNI.out fun e => by
              have := HP.out.2 (by rw [e])
              cases this
            go_upto_region 11 with fail
            have kk0 := cell_regrown c1
            have kk1 := cell_regrown d1
            have kk2 := cell_regrown c2
            have kk3 := cell_regrown c3
            have kk4 := cell_regrown d2
            have kk5 := cell_regrown d3
            have cC0 := fun d os => Calls.regrown_of (w := wr) (d := d) (os := os) (HC.out _ ((below_regrown wr d os).mono hsx))
            have CC0 := Lib.hid cC0
            clear c1 d1 c2 c3 d2 d3 cC0
            refine wp_region_quiet_below (by kernel_rfl) (by kernel_rfl) ?_
            repeat (go_big_quiet_step (with_reducible first | exact CC0.out _ _))
            refine wpQuiet_nil ?_
            intro _ hw'
            obtain ⟨⟨dq, osq⟩, hw''⟩ := hw'
            subst hw''
            have hwq := below_regrown wr dq osq
            generalize grow (redrawn wr dq) osq = wq at hwq ⊢
            have HW := Lib.hid hwq
            clear hwq kk0 kk1 kk2 kk3 kk4 kk5
            go_wp2_with fail
            go_ret
            exact ⟨rfl, HBX.out.trans (HW.out.mono hsx)⟩
          · have HEQ : Hid (u = v) := Lib.hid (Prod.ext (by rw [HM.out, HM'.out, E2.out]) (HP.out.1 rfl))
            go_upto_region 11 with fail
            have kk0 := cell_regrown c1
            have kk1 := cell_regrown d1
            have kk2 := cell_regrown c2
            have kk3 := cell_regrown c3
            have kk4 := cell_regrown d2
            have kk5 := cell_regrown d3
            have cC0 := fun d os => Calls.regrown_of (w := wr) (d := d) (os := os) (HC.out _ ((below_regrown wr d os).mono hsx))
            have CC0 := Lib.hid cC0
            clear c1 d1 c2 c3 d2 d3 cC0
            refine wp_region_quiet_below (by kernel_rfl) (by kernel_rfl) ?_
            repeat (go_big_quiet_step (with_reducible first | exact CC0.out _ _))
            refine wpQuiet_nil ?_
            intro _ hw'
            obtain ⟨⟨dq, osq⟩, hw''⟩ := hw'
            subst hw''
            have hwq := below_regrown wr dq osq
            generalize grow (redrawn wr dq) osq = wq at hwq ⊢
            have HW := Lib.hid hwq
            clear hwq kk0 kk1 kk2 kk3 kk4 kk5
            go_wp2_with fail
            go_roundw
            case rel =>
              refine ⟨j + 1, by omega, by go_num, Lib.hid fun t ht => ?_, HBX.out.trans (HW.out.mono hsx)⟩
              by_cases e : t = j
              · subst e
                rw [HU.out, HV.out, HEQ.out]
              · exact hin.out t (by omega)
            case measure => simp [intOf]; omega
        · obtain rfl : j = nx := by omega
          have HXY : Hid (x = y) := Lib.hid (Prod.ext (by rw [HK.out, HK'.out, E0.out]) (same_list (by rw [LX.out.1, LY.out.1]) fun t ht => hin.out t (by rw [← LX.out.1]; exact ht)))
          have HBX := Lib.hid hbx
          clear hbx hin
          go_wp2_with fail
          go_roundw
          case rel =>
            refine ⟨k + 1, by omega, by go_num, Lib.hid fun t ht => ?_, HBX.out⟩
            by_cases e : t = k
            · subst e
              rw [HX.out, HY.out, HXY.out]
            · exact hall.out t (by omega)
          case measure => simp [intOf]; omega
    · obtain rfl : k = n := by omega
      obtain rfl : R = true := HYES.out (same_list (by rw [HL.out.1, HL'.out.1]) fun j hj => hall.out j (by rw [← HL.out.1]; exact hj))
      have HWW := Lib.hid hbw
      clear hbw
      go_wp2_with fail
      go_ret
      exact ⟨rfl, HWW.out⟩
end Go.Proofs.Ytcooobnaocbdjaa
