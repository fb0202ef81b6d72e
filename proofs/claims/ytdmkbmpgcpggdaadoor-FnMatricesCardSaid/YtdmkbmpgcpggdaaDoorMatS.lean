/-
  The model's functions on tables of numbers.
-/
import Derived.Test.YtdmkbmpgcpggdaaDoorVecS
import Derived.Test.YtdmkbmpgcpggdaaDoorMat
namespace Go.Proofs.YtdmkbmpgcpggdaaDoor
open Go.RowKit
set_option linter.unusedVariables false

theorem prod36 {r c : Int} (hr : inB 1 6 r = true) (hc : inB 1 6 c = true) : 1 ≤ r * c ∧ r * c ≤ 36 := by
  obtain ⟨a0, a1⟩ := inB_has hr
  obtain ⟨b0, b1⟩ := inB_has hc
  have h : r = 1 ∨ r = 2 ∨ r = 3 ∨ r = 4 ∨ r = 5 ∨ r = 6 := by omega
  rcases h with rfl | rfl | rfl | rfl | rfl | rfl <;> omega
theorem matOkB_all {r c : Int} {xs : List Int} (hr : inB 1 6 r = true) (hc : inB 1 6 c = true) (hl : (xs.length : Int) = r * c) : matOkB r c xs = xs.all okB := by
  unfold matOkB
  rw [hr, hc, decide_eq_true hl]
  simp
theorem matOkB_r {r c : Int} {xs : List Int} (hr : inB 1 6 r = false) : matOkB r c xs = false := by unfold matOkB; rw [hr]; rfl
theorem matOkB_c {r c : Int} {xs : List Int} (hc : inB 1 6 c = false) : matOkB r c xs = false := by unfold matOkB; rw [hc, Bool.and_false]; rfl
theorem matOkB_l {r c : Int} {xs : List Int} (hl : ¬ (xs.length : Int) = r * c) : matOkB r c xs = false := by unfold matOkB; rw [decide_eq_false hl, Bool.and_false]; rfl
theorem Row.form2 {base : Nat} {w : World} {v : Value} {n : Nat} {xs : List Int} (h : Row base w v xs) (hl : Hid (xs.length = n)) (hr : n ≤ 1048576) : ∃ a cap, v = .slice a n cap ∧ n ≤ cap ∧ IntsIn w.heap.size w a n xs := by
  obtain ⟨a, c, e, hi⟩ := h.form' hl hr
  subst e
  refine ⟨a, c, rfl, ?_, hi⟩
  have hl := hl.out
  rcases h.2 with ⟨e1, h0⟩ | ⟨g, cap, cur, e1, _, _, hc, _⟩
  · cases e1; omega
  · cases e1; omega

set_option maxRecDepth 100000 in
theorem specMatOk_any (w : World) (r c : Int) (a : Option Addr) (n cp : Nat) (xs : List Int) (h : IntsIn w.heap.size w a n xs) :
    Calls Tryd.prog 13 #[.agg #[.int .i64 r, .int .i64 c, .slice a n cp]] w fun e w' => e = .returned (.bool (matOkB r c xs)) ∧ Below w.heap.size w w' := by
  have hroom := h.room
  have hal : Below w.heap.size w (w.alloc (.cells #[.int .i64 r, .int .i64 c, .slice a n cp] 26 (0, 0))) := (Below.refl _ _).alloc (Nat.le_refl _) _
  have HA := Lib.hid hal
  have H := Lib.hid (h.below hal (Nat.le_refl _))
  have hl := h.len
  have HR := Lib.hid (fun w => l1In_any r 1 6 w)
  have HC := Lib.hid (fun w => l1In_any c 1 6 w)
  clear h hal
  obtain ⟨d, hd⟩ : ∃ d, d = matOkB r c xs := ⟨_, rfl⟩
  rw [← hd]
  have HD := Lib.hid hd
  clear hd
  cases hr : inB 1 6 r with
  | false =>
    have hdf : d = false := by rw [HD.out]; exact matOkB_r hr
    subst hdf
    rw [hr] at HR
    clear hr hl
    go_enter Tryd.func13, Tryd.ntmps13
    go_wp2_with fail
    refine (HR.out _).mono ?_
    rintro e w' ⟨rfl, rfl⟩
    go_wp2_with fail
    go_ret
    exact ⟨rfl, HA.out⟩
  | true =>
    cases hc : inB 1 6 c with
    | false =>
      have hdf : d = false := by rw [HD.out]; exact matOkB_c hc
      subst hdf
      rw [hr] at HR
      rw [hc] at HC
      clear hr hc hl
      go_enter Tryd.func13, Tryd.ntmps13
      go_wp2_with fail
      refine (HR.out _).mono ?_
      rintro e w' ⟨rfl, rfl⟩
      go_wp2_with fail
      refine (HC.out _).mono ?_
      rintro e w' ⟨rfl, rfl⟩
      go_wp2_with fail
      go_ret
      exact ⟨rfl, HA.out⟩
    | true =>
      have hp := prod36 hr hc
      by_cases hn : (n : Int) = r * c
      · have hall : d = xs.all okB := by rw [HD.out]; exact matOkB_all hr hc (by rw [hl]; exact hn)
        have HL := Lib.hid hall
        have hw : wrap64 (r * c) = (n : Int) := by rw [IntWalk.wrap64_in (r * c) (by omega)]; exact hn.symm
        rw [hr] at HR
        rw [hc] at HC
        clear hr hc hl hn hp hall
        go_enter Tryd.func13, Tryd.ntmps13
        go_wp2_with fail
        refine (HR.out _).mono ?_
        rintro e w' ⟨rfl, rfl⟩
        go_wp2_with fail
        refine (HC.out _).mono ?_
        rintro e w' ⟨rfl, rfl⟩
        go_wp2_with fail
        obtain ⟨⟨c0, c1, c2⟩, -⟩ := cells3 (heap_alloc_new w (.cells #[.int .i64 r, .int .i64 c, .slice a n cp] 26 (0, 0)))
        generalize w.alloc (.cells #[.int .i64 r, .int .i64 c, .slice a n cp] 26 (0, 0)) = wa at HA H c0 c1 c2 ⊢
        clear hw
        go_loopw [3] (fun i wr => ∃ k : Nat, k ≤ n ∧ i = .int .i64 k ∧ Hid (∀ j, j < k → okB (xs.getD j 0) = true) ∧ wr = wa) (fun i _ => n - (intOf i).toNat)
        case atStart => exact ⟨0, Nat.zero_le _, rfl, fun j hj => absurd hj (Nat.not_lt_zero _), rfl⟩
        case round =>
          obtain ⟨k, hk, rfl, hsame, rfl⟩ := hrel
          by_cases hlt : k < n
          · obtain ⟨b, o, rfl, hbB, hcell⟩ := H.out.cells k hlt
            obtain ⟨X, hX⟩ : ∃ X, X = xs.getD k 0 := ⟨_, rfl⟩
            rw [← hX] at hcell
            have HX := Lib.hid hX
            clear hX
            obtain ⟨o', ho⟩ : ∃ o', okB X = o' := ⟨_, rfl⟩
            have HS := Lib.hid (fun w => specFixOk_any X w)
            rw [ho] at HS
            have HO := Lib.hid ho
            clear ho
            cases o'
            · have hdf : d = false := by rw [HL.out]; exact all_place (by rw [H.out.len]; exact hlt) (by rw [← HX.out]; exact HO.out)
              subst hdf
              go_wp2_with fail
              refine (HS.out _).mono ?_
              rintro e w' ⟨rfl, rfl⟩
              go_wp2_with fail
              go_ret
              exact ⟨rfl, HA.out⟩
            · go_wp2_with fail
              refine (HS.out _).mono ?_
              rintro e w' ⟨rfl, rfl⟩
              go_wp2_with fail
              go_roundw
              case rel =>
                refine ⟨k + 1, by omega, by go_num, show Hid _ from fun j hj => ?_, trivial⟩
                by_cases e : j = k
                · subst e; rw [← HX.out]; exact HO.out
                · exact hsame.out j (by omega)
              case measure => simp [intOf]; omega
          · obtain rfl : k = n := by omega
            have hdt : d = true := by
              rw [HL.out]
              exact all_of_get fun j hj => hsame.out j (by rw [H.out.len] at hj; exact hj)
            subst hdt
            go_wp2_with fail
            go_ret
            exact ⟨rfl, HA.out⟩
      · have hdf : d = false := by rw [HD.out]; exact matOkB_l (by rw [hl]; exact hn)
        subst hdf
        obtain ⟨P, hP⟩ : ∃ P, r * c = P := ⟨_, rfl⟩
        have hw : wrap64 (r * c) = P := by rw [IntWalk.wrap64_in (r * c) (by omega)]; exact hP
        rw [hP] at hn
        have hne : ((n : Int) == P) = false := by simpa using hn
        rw [hr] at HR
        rw [hc] at HC
        clear hr hc hl hn hp hP
        go_enter Tryd.func13, Tryd.ntmps13
        go_wp2_with fail
        refine (HR.out _).mono ?_
        rintro e w' ⟨rfl, rfl⟩
        go_wp2_with fail
        refine (HC.out _).mono ?_
        rintro e w' ⟨rfl, rfl⟩
        go_wp2_with fail
        go_ret
        exact ⟨rfl, HA.out⟩

set_option maxRecDepth 100000 in
/-- Row i. -/
theorem l4Row_any (w : World) (r : Int) (m c i : Nat) (a : Option Addr) (n cp : Nat) (xs : List Int) (h : IntsIn w.heap.size w a n xs) (hcp : n ≤ cp) (hcap : cp ≤ 9223372036854775807) (hn : n = m * c) (hi : i < m) (hm : m ≤ 6) (hc0 : 1 ≤ c) (hc : c ≤ 6) :
    Calls Tryd.prog 45 #[.agg #[.int .i64 r, .int .i64 c, .slice a n cp], .int .i64 i] w fun e w' => ∃ a' cp', e = .returned (.slice a' c cp') ∧ IntsIn w.heap.size w' a' c (rowOf c xs i) ∧ Below w.heap.size w w' := by
  have hal : Below w.heap.size w (w.alloc (.cells #[.int .i64 r, .int .i64 c, .slice a n cp] 26 (0, 0))) := (Below.refl _ _).alloc (Nat.le_refl _) _
  have hle : (i + 1) * c ≤ m * c := Nat.mul_le_mul_right c (by omega)
  have hmc : m * c ≤ 6 * 6 := Nat.mul_le_mul hm hc
  rw [Nat.succ_mul] at hle
  obtain ⟨q, hq⟩ : ∃ q, i * c = q := ⟨_, rfl⟩
  have e1 : (i : Int) * (c : Int) = (q : Int) := by rw [← hq]; push_cast; rfl
  have e2 : ((i : Int) + 1) * (c : Int) = ((q + c : Nat) : Int) := by rw [Int.add_mul, e1]; push_cast; omega
  have hqn : q + c ≤ n := by omega
  have hq36 : q + c ≤ 36 := by omega
  obtain ⟨b, o, rfl, hbB, _⟩ := h.cells 0 (by omega)
  have hrow : IntsIn w.heap.size (w.alloc (.cells #[.int .i64 r, .int .i64 c, .slice (some ⟨b, o, none⟩) n cp] 26 (0, 0))) (some ⟨b, o + q, none⟩) c (rowOf c xs i) := by
    refine ⟨rowOf_length (r := m) (by rw [h.len, hn]) hi, by omega, fun k hk => ?_⟩
    obtain ⟨b', o', e, hb', hcell⟩ := (h.below hal (Nat.le_refl _)).cells (q + k) (by omega)
    cases e
    refine ⟨b, o + q, rfl, hb', ?_⟩
    rw [rowOf_get c xs i k hk, hq]
    rw [Nat.add_assoc]
    exact hcell
  have HA := Lib.hid hal
  have HW := Lib.hid hrow
  clear hal hrow h hle hmc hq hn
  go_enter Tryd.func45, Tryd.ntmps45
  go_wp2_with fail
  go_ret
  have e3 : q + c - q = c := by omega
  rw [e3]
  exact ⟨_, _, rfl, HW.out, HA.out⟩

set_option maxRecDepth 100000 in
/-- Column k. -/
theorem l4Col_any (w : World) (m c k : Nat) (a : Option Addr) (n cp : Nat) (xs : List Int) (h : IntsIn w.heap.size w a n xs) (hn : n = m * c) (hk : k < c) (hm : m ≤ 6) (hc : c ≤ 6) :
    Calls Tryd.prog 46 #[.agg #[.int .i64 m, .int .i64 c, .slice a n cp], .int .i64 k] w fun e w' => ∃ v, e = .returned v ∧ Row w.heap.size w' v (colOf m c xs k) ∧ Below w.heap.size w w' := by
  obtain ⟨i0, hi, hz0, hz1, hz2⟩ := info_parts Tryd.infoI64
  have hmc : n ≤ 36 := by rw [hn]; exact le36 hm hc
  have hroom := h.room
  have hal : Below w.heap.size w ((w.alloc (.cells #[.int .i64 m, .int .i64 c, .slice a n cp] 26 (0, 0))).alloc (.cells #[] 3 (0, 0))) := ((Below.refl _ _).alloc (Nat.le_refl _) _).alloc (by simp) _
  have hrow := Row.empty (w.alloc (.cells #[.int .i64 m, .int .i64 c, .slice a n cp] 26 (0, 0))) _ rfl
  have hbx : ((w.alloc (.cells #[.int .i64 m, .int .i64 c, .slice a n cp] 26 (0, 0))).alloc (.cells #[] 3 (0, 0))).heap[w.heap.size]? = some (.cells #[.int .i64 m, .int .i64 c, .slice a n cp] 26 (0, 0)) := by
    rw [Below.heap_alloc _ _ _ (by simp)]
    exact heap_alloc_new w _
  have hsz : (w.alloc (.cells #[.int .i64 m, .int .i64 c, .slice a n cp] 26 (0, 0))).heap.size = w.heap.size + 1 := by simp
  rw [hsz] at hrow
  have HN := Lib.hid hn
  have HX := Lib.hid h
  have HA := Lib.hid hal
  have HR0 := Lib.hid hrow
  have HB0 := Lib.hid hbx
  clear h hal hrow hbx hsz hn
  go_enter Tryd.func46, Tryd.ntmps46
  go_wp2_with fail
  generalize (w.alloc (.cells #[.int .i64 m, .int .i64 c, .slice a n cp] 26 (0, 0))).alloc (.cells #[] 3 (0, 0)) = wa at HA HR0 HB0 ⊢
  have HX1 := Lib.hid (HX.out.below HA.out (Nat.le_refl _))
  have hsa := HA.out.size
  have hlt : w.heap.size + 1 < wa.heap.size := (HR0.out.lt _ rfl).2
  go_loopw [5, 6] (fun v i wr => ∃ j : Nat, j ≤ m ∧ i = .int .i64 j ∧ Row (w.heap.size + 1) wr v (mapK (colF c xs k) j) ∧ Below (w.heap.size + 1) wa wr) (fun _ i _ => m - (intOf i).toNat)
  case atStart => exact ⟨0, Nat.zero_le _, rfl, HR0.out, Below.refl _ _⟩
  case round =>
    obtain ⟨j, hj, rfl, hrow, hb⟩ := hrel
    have hl := mapK_length (colF c xs k) j
    have hs := hb.size
    obtain ⟨⟨c0, c1, c2⟩, -⟩ := cells3 ((hb.block w.heap.size (by omega)).trans HB0.out)
    have HR := Lib.hid hrow
    have HB := Lib.hid hb
    clear hrow hb
    by_cases hlj : j < m
    · have hp : j * c + k < n := by rw [HN.out]; exact place_lt hlj hk
      obtain ⟨b, o, rfl, hbB, hcell0⟩ := HX1.out.cells (j * c + k) hp
      obtain ⟨X, hX⟩ : ∃ X, X = xs.getD (j * c + k) 0 := ⟨_, rfl⟩
      obtain ⟨q, hq⟩ : ∃ q, j * c = q := ⟨_, rfl⟩
      have e2 : mapK (colF c xs k) (j + 1) = mapK (colF c xs k) j ++ [X] := by rw [mapK, hX]; rfl
      rw [← hX, hq] at hcell0
      rw [hq] at hp
      have e1 : (j : Int) * (c : Int) = (q : Int) := by rw [← hq]; push_cast; rfl
      have hcell := (HB.out.cell (p := ⟨b, o + (q + k), none⟩) (by show b < _; omega)).trans hcell0
      have E2 := Lib.hid e2
      obtain ⟨zs, hzs⟩ : ∃ zs, mapK (colF c xs k) j = zs := ⟨_, rfl⟩
      rw [hzs] at HR E2 hl
      have hown : wr.ownsRow (w.heap.size + 1) 3 1 _ _ (icells _) := HR.out
      have hsz : w.heap.size + 1 ≤ wr.heap.size := by omega
      clear hX hq hcell0 e2 hzs
      go_wp2_with (at_builtin; refine wpList_append_own _ rfl _ _ 24 rfl (w.heap.size + 1) 3 i0 (.int .i64 0) 1 8 Tryd.underlying24 hi hz0 hz1 hz2 rfl (by decide) _ _ _ rfl (hown.alloc _) ⟨wr.heap.size, 0, none⟩ 1 1 (icells [X]) rfl rfl (cell_num_put _ _ _) (icells_one _) (by unfold maxLen; omega) (by omega) (by simp; omega) ?_; intro v' w2 hown' hgrow _)
      have hput := Row.put HR.out hsz _ hown' hgrow
      clear hown' hgrow hown
      go_wp2_with fail
      go_roundw
      case rel => exact ⟨j + 1, by omega, by go_num, by rw [E2.out]; exact hput.1, HB.out.trans hput.2⟩
      case measure => simp [intOf]; omega
    · obtain rfl : j = m := by omega
      go_wp2_with fail
      go_ret
      exact ⟨_, rfl, HR.out.le (by omega), HA.out.trans (HB.out.mono (by omega))⟩
end Go.Proofs.YtdmkbmpgcpggdaaDoor
