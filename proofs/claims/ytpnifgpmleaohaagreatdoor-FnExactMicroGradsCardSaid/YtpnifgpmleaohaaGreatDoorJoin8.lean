import Derived.Test.YtpnifgpmleaohaaGreatDoorJoin7
import Derived.Test.YtpnifgpmleaohaaGreatDoorJoin3
import Derived.Laws.ResultCell
import Derived.Deep.AppendLies
import Derived.Deep.RegionLaw
/-! YtpnifgpmleaohaaGreatDoorMatS -/
section

namespace Go.Proofs.YtpnifgpmleaohaaGreatDoor
open Go.RowKit
set_option linter.unusedVariables false

theorem prod36 {r c : Int} (hr : inB 1 6 r = true) (hc : inB 1 6 c = true) : 1 ≤ r * c ∧ r * c ≤ 36 := by
  obtain ⟨a0, a1⟩ := inB_has hr
  obtain ⟨b0, b1⟩ := inB_has hc
  have h : r = 1 ∨ r = 2 ∨ r = 3 ∨ r = 4 ∨ r = 5 ∨ r = 6 := by omega
  rcases h with rfl | rfl | rfl | rfl | rfl | rfl <;> omega
theorem matOkB_all {r c : Int} {xs : List Int} (hr : inB 1 6 r = true) (hc : inB 1 6 c = true) (hl : (xs.length : Int) = r * c) : matOkB r c xs = xs.all okB := by
  unfold matOkB
  rw [hr, hc, decide_eq_true hl]
  simp
theorem matOkB_r {r c : Int} {xs : List Int} (hr : inB 1 6 r = false) : matOkB r c xs = false := by unfold matOkB; rw [hr]; rfl
theorem matOkB_c {r c : Int} {xs : List Int} (hc : inB 1 6 c = false) : matOkB r c xs = false := by unfold matOkB; rw [hc, Bool.and_false]; rfl
theorem matOkB_l {r c : Int} {xs : List Int} (hl : ¬ (xs.length : Int) = r * c) : matOkB r c xs = false := by unfold matOkB; rw [decide_eq_false hl, Bool.and_false]; rfl
theorem Row.form2 {base : Nat} {w : World} {v : Value} {n : Nat} {xs : List Int} (h : Row base w v xs) (hl : Hid (xs.length = n)) (hr : n ≤ 1048576) : ∃ a cap, v = .slice a n cap ∧ n ≤ cap ∧ IntsIn w.heap.size w a n xs := by
  obtain ⟨a, c, e, hi⟩ := h.form' hl hr
  subst e
  refine ⟨a, c, rfl, ?_, hi⟩
  have hl := hl.out
  rcases h.2 with ⟨e1, h0⟩ | ⟨g, cap, cur, e1, _, _, hc, _⟩
  · cases e1; omega
  · cases e1; omega

set_option maxRecDepth 100000 in
theorem specMatOk_any (w : World) (r c : Int) (a : Option Addr) (n cp : Nat) (xs : List Int) (h : IntsIn w.heap.size w a n xs) :
    Calls Tryz.prog 235 #[.agg #[.int .i64 r, .int .i64 c, .slice a n cp]] w fun e w' => e = .returned (.bool (matOkB r c xs)) ∧ Below w.heap.size w w' := by
  have hroom := h.room
  have hal : Below w.heap.size w (w.alloc (.cells #[.int .i64 r, .int .i64 c, .slice a n cp] 245 (0, 0))) := (Below.refl _ _).alloc (Nat.le_refl _) _
  have HA := Lib.hid hal
  have H := Lib.hid (h.below hal (Nat.le_refl _))
  have hl := h.len
  have HR := Lib.hid (fun w => l1In_any r 1 6 w)
  have HC := Lib.hid (fun w => l1In_any c 1 6 w)
  clear h hal
  obtain ⟨d, hd⟩ : ∃ d, d = matOkB r c xs := ⟨_, rfl⟩
  rw [← hd]
  have HD := Lib.hid hd
  clear hd
  cases hr : inB 1 6 r with
  | false =>
    have hdf : d = false := by rw [HD.out]; exact matOkB_r hr
    subst hdf
    rw [hr] at HR
    clear hr hl
    go_enter Tryz.func235, Tryz.ntmps235
    go_wp2_with fail
    refine (HR.out _).mono ?_
    rintro e w' ⟨rfl, rfl⟩
    go_wp2_with fail
    go_ret
    exact ⟨rfl, HA.out⟩
  | true =>
    cases hc : inB 1 6 c with
    | false =>
      have hdf : d = false := by rw [HD.out]; exact matOkB_c hc
      subst hdf
      rw [hr] at HR
      rw [hc] at HC
      clear hr hc hl
      go_enter Tryz.func235, Tryz.ntmps235
      go_wp2_with fail
      refine (HR.out _).mono ?_
      rintro e w' ⟨rfl, rfl⟩
      go_wp2_with fail
      refine (HC.out _).mono ?_
      rintro e w' ⟨rfl, rfl⟩
      go_wp2_with fail
      go_ret
      exact ⟨rfl, HA.out⟩
    | true =>
      have hp := prod36 hr hc
      by_cases hn : (n : Int) = r * c
      · have hall : d = xs.all okB := by rw [HD.out]; exact matOkB_all hr hc (by rw [hl]; exact hn)
        have HL := Lib.hid hall
        have hw : wrap64 (r * c) = (n : Int) := by rw [IntWalk.wrap64_in (r * c) (by omega)]; exact hn.symm
        rw [hr] at HR
        rw [hc] at HC
        clear hr hc hl hn hp hall
        go_enter Tryz.func235, Tryz.ntmps235
        go_wp2_with fail
        refine (HR.out _).mono ?_
        rintro e w' ⟨rfl, rfl⟩
        go_wp2_with fail
        refine (HC.out _).mono ?_
        rintro e w' ⟨rfl, rfl⟩
        go_wp2_with fail
        obtain ⟨⟨c0, c1, c2⟩, -⟩ := cells3 (heap_alloc_new w (.cells #[.int .i64 r, .int .i64 c, .slice a n cp] 245 (0, 0)))
        generalize w.alloc (.cells #[.int .i64 r, .int .i64 c, .slice a n cp] 245 (0, 0)) = wa at HA H c0 c1 c2 ⊢
        clear hw
        go_loopw [3] (fun i wr => ∃ k : Nat, k ≤ n ∧ i = .int .i64 k ∧ Hid (∀ j, j < k → okB (xs.getD j 0) = true) ∧ wr = wa) (fun i _ => n - (intOf i).toNat)
        case atStart => exact ⟨0, Nat.zero_le _, rfl, fun j hj => absurd hj (Nat.not_lt_zero _), rfl⟩
        case round =>
          obtain ⟨k, hk, rfl, hsame, rfl⟩ := hrel
          by_cases hlt : k < n
          · obtain ⟨b, o, rfl, hbB, hcell⟩ := H.out.cells k hlt
            obtain ⟨X, hX⟩ : ∃ X, X = xs.getD k 0 := ⟨_, rfl⟩
            rw [← hX] at hcell
            have HX := Lib.hid hX
            clear hX
            obtain ⟨o', ho⟩ : ∃ o', okB X = o' := ⟨_, rfl⟩
            have HS := Lib.hid (fun w => specFixOk_any X w)
            rw [ho] at HS
            have HO := Lib.hid ho
            clear ho
            cases o'
            · have hdf : d = false := by rw [HL.out]; exact all_place (by rw [H.out.len]; exact hlt) (by rw [← HX.out]; exact HO.out)
              subst hdf
              go_wp2_with fail
              refine (HS.out _).mono ?_
              rintro e w' ⟨rfl, rfl⟩
              go_wp2_with fail
              go_ret
              exact ⟨rfl, HA.out⟩
            · go_wp2_with fail
              refine (HS.out _).mono ?_
              rintro e w' ⟨rfl, rfl⟩
              go_wp2_with fail
              go_roundw
              case rel =>
                refine ⟨k + 1, by omega, by go_num, show Hid _ from fun j hj => ?_, trivial⟩
                by_cases e : j = k
                · subst e; rw [← HX.out]; exact HO.out
                · exact hsame.out j (by omega)
              case measure => simp [intOf]; omega
          · obtain rfl : k = n := by omega
            have hdt : d = true := by
              rw [HL.out]
              exact all_of_get fun j hj => hsame.out j (by rw [H.out.len] at hj; exact hj)
            subst hdt
            go_wp2_with fail
            go_ret
            exact ⟨rfl, HA.out⟩
      · have hdf : d = false := by rw [HD.out]; exact matOkB_l (by rw [hl]; exact hn)
        subst hdf
        obtain ⟨P, hP⟩ : ∃ P, r * c = P := ⟨_, rfl⟩
        have hw : wrap64 (r * c) = P := by rw [IntWalk.wrap64_in (r * c) (by omega)]; exact hP
        rw [hP] at hn
        have hne : ((n : Int) == P) = false := by simpa using hn
        rw [hr] at HR
        rw [hc] at HC
        clear hr hc hl hn hp hP
        go_enter Tryz.func235, Tryz.ntmps235
        go_wp2_with fail
        refine (HR.out _).mono ?_
        rintro e w' ⟨rfl, rfl⟩
        go_wp2_with fail
        refine (HC.out _).mono ?_
        rintro e w' ⟨rfl, rfl⟩
        go_wp2_with fail
        go_ret
        exact ⟨rfl, HA.out⟩

set_option maxRecDepth 100000 in
/-- Row i. -/
theorem l4Row_any (w : World) (r : Int) (m c i : Nat) (a : Option Addr) (n cp : Nat) (xs : List Int) (h : IntsIn w.heap.size w a n xs) (hcp : n ≤ cp) (hcap : cp ≤ 9223372036854775807) (hn : n = m * c) (hi : i < m) (hm : m ≤ 6) (hc0 : 1 ≤ c) (hc : c ≤ 6) :
    Calls Tryz.prog 236 #[.agg #[.int .i64 r, .int .i64 c, .slice a n cp], .int .i64 i] w fun e w' => ∃ a' cp', e = .returned (.slice a' c cp') ∧ IntsIn w.heap.size w' a' c (rowOf c xs i) ∧ Below w.heap.size w w' := by
  have hal : Below w.heap.size w (w.alloc (.cells #[.int .i64 r, .int .i64 c, .slice a n cp] 245 (0, 0))) := (Below.refl _ _).alloc (Nat.le_refl _) _
  have hle : (i + 1) * c ≤ m * c := Nat.mul_le_mul_right c (by omega)
  have hmc : m * c ≤ 6 * 6 := Nat.mul_le_mul hm hc
  rw [Nat.succ_mul] at hle
  obtain ⟨q, hq⟩ : ∃ q, i * c = q := ⟨_, rfl⟩
  have e1 : (i : Int) * (c : Int) = (q : Int) := by rw [← hq]; push_cast; rfl
  have e2 : ((i : Int) + 1) * (c : Int) = ((q + c : Nat) : Int) := by rw [Int.add_mul, e1]; push_cast; omega
  have hqn : q + c ≤ n := by omega
  have hq36 : q + c ≤ 36 := by omega
  obtain ⟨b, o, rfl, hbB, _⟩ := h.cells 0 (by omega)
  have hrow : IntsIn w.heap.size (w.alloc (.cells #[.int .i64 r, .int .i64 c, .slice (some ⟨b, o, none⟩) n cp] 245 (0, 0))) (some ⟨b, o + q, none⟩) c (rowOf c xs i) := by
    refine ⟨rowOf_length (r := m) (by rw [h.len, hn]) hi, by omega, fun k hk => ?_⟩
    obtain ⟨b', o', e, hb', hcell⟩ := (h.below hal (Nat.le_refl _)).cells (q + k) (by omega)
    cases e
    refine ⟨b, o + q, rfl, hb', ?_⟩
    rw [rowOf_get c xs i k hk, hq]
    rw [Nat.add_assoc]
    exact hcell
  have HA := Lib.hid hal
  have HW := Lib.hid hrow
  clear hal hrow h hle hmc hq hn
  go_enter Tryz.func236, Tryz.ntmps236
  go_wp2_with fail
  go_ret
  have e3 : q + c - q = c := by omega
  rw [e3]
  exact ⟨_, _, rfl, HW.out, HA.out⟩

set_option maxRecDepth 100000 in
/-- Column k. -/
theorem l4Col_any (w : World) (m c k : Nat) (a : Option Addr) (n cp : Nat) (xs : List Int) (h : IntsIn w.heap.size w a n xs) (hn : n = m * c) (hk : k < c) (hm : m ≤ 6) (hc : c ≤ 6) :
    Calls Tryz.prog 239 #[.agg #[.int .i64 m, .int .i64 c, .slice a n cp], .int .i64 k] w fun e w' => ∃ v, e = .returned v ∧ Row w.heap.size w' v (colOf m c xs k) ∧ Below w.heap.size w w' := by
  obtain ⟨i0, hi, hz0, hz1, hz2⟩ := info_parts Tryz.infoI64
  have hmc : n ≤ 36 := by rw [hn]; exact le36 hm hc
  have hroom := h.room
  have hal : Below w.heap.size w ((w.alloc (.cells #[.int .i64 m, .int .i64 c, .slice a n cp] 245 (0, 0))).alloc (.cells #[] 3 (0, 0))) := ((Below.refl _ _).alloc (Nat.le_refl _) _).alloc (by simp) _
  have hrow := Row.empty (w.alloc (.cells #[.int .i64 m, .int .i64 c, .slice a n cp] 245 (0, 0))) _ rfl
  have hbx : ((w.alloc (.cells #[.int .i64 m, .int .i64 c, .slice a n cp] 245 (0, 0))).alloc (.cells #[] 3 (0, 0))).heap[w.heap.size]? = some (.cells #[.int .i64 m, .int .i64 c, .slice a n cp] 245 (0, 0)) := by
    rw [Below.heap_alloc _ _ _ (by simp)]
    exact heap_alloc_new w _
  have hsz : (w.alloc (.cells #[.int .i64 m, .int .i64 c, .slice a n cp] 245 (0, 0))).heap.size = w.heap.size + 1 := by simp
  rw [hsz] at hrow
  have HN := Lib.hid hn
  have HX := Lib.hid h
  have HA := Lib.hid hal
  have HR0 := Lib.hid hrow
  have HB0 := Lib.hid hbx
  clear h hal hrow hbx hsz hn
  go_enter Tryz.func239, Tryz.ntmps239
  go_wp2_with fail
  generalize (w.alloc (.cells #[.int .i64 m, .int .i64 c, .slice a n cp] 245 (0, 0))).alloc (.cells #[] 3 (0, 0)) = wa at HA HR0 HB0 ⊢
  have HX1 := Lib.hid (HX.out.below HA.out (Nat.le_refl _))
  have hsa := HA.out.size
  have hlt : w.heap.size + 1 < wa.heap.size := (HR0.out.lt _ rfl).2
  go_loopw [5, 6] (fun v i wr => ∃ j : Nat, j ≤ m ∧ i = .int .i64 j ∧ Row (w.heap.size + 1) wr v (mapK (colF c xs k) j) ∧ Below (w.heap.size + 1) wa wr) (fun _ i _ => m - (intOf i).toNat)
  case atStart => exact ⟨0, Nat.zero_le _, rfl, HR0.out, Below.refl _ _⟩
  case round =>
    obtain ⟨j, hj, rfl, hrow, hb⟩ := hrel
    have hl := mapK_length (colF c xs k) j
    have hs := hb.size
    obtain ⟨⟨c0, c1, c2⟩, -⟩ := cells3 ((hb.block w.heap.size (by omega)).trans HB0.out)
    have HR := Lib.hid hrow
    have HB := Lib.hid hb
    clear hrow hb
    by_cases hlj : j < m
    · have hp : j * c + k < n := by rw [HN.out]; exact place_lt hlj hk
      obtain ⟨b, o, rfl, hbB, hcell0⟩ := HX1.out.cells (j * c + k) hp
      obtain ⟨X, hX⟩ : ∃ X, X = xs.getD (j * c + k) 0 := ⟨_, rfl⟩
      obtain ⟨q, hq⟩ : ∃ q, j * c = q := ⟨_, rfl⟩
      have e2 : mapK (colF c xs k) (j + 1) = mapK (colF c xs k) j ++ [X] := by rw [mapK, hX]; rfl
      rw [← hX, hq] at hcell0
      rw [hq] at hp
      have e1 : (j : Int) * (c : Int) = (q : Int) := by rw [← hq]; push_cast; rfl
      have hcell := (HB.out.cell (p := ⟨b, o + (q + k), none⟩) (by show b < _; omega)).trans hcell0
      have E2 := Lib.hid e2
      obtain ⟨zs, hzs⟩ : ∃ zs, mapK (colF c xs k) j = zs := ⟨_, rfl⟩
      rw [hzs] at HR E2 hl
      have hown : wr.ownsRow (w.heap.size + 1) 3 1 _ _ (icells _) := HR.out
      have hsz : w.heap.size + 1 ≤ wr.heap.size := by omega
      clear hX hq hcell0 e2 hzs
      go_wp2_with (at_builtin; refine wpList_append_own _ rfl _ _ 28 rfl (w.heap.size + 1) 3 i0 (.int .i64 0) 1 8 Tryz.underlying28 hi hz0 hz1 hz2 rfl (by decide) _ _ _ rfl (hown.alloc _) ⟨wr.heap.size, 0, none⟩ 1 1 (icells [X]) rfl rfl (cell_num_put _ _ _) (icells_one _) (by unfold maxLen; omega) (by omega) (by simp; omega) ?_; intro v' w2 hown' hgrow _)
      have hput := Row.put HR.out hsz _ hown' hgrow
      clear hown' hgrow hown
      go_wp2_with fail
      go_roundw
      case rel => exact ⟨j + 1, by omega, by go_num, by rw [E2.out]; exact hput.1, HB.out.trans hput.2⟩
      case measure => simp [intOf]; omega
    · obtain rfl : j = m := by omega
      go_wp2_with fail
      go_ret
      exact ⟨_, rfl, HR.out.le (by omega), HA.out.trans (HB.out.mono (by omega))⟩
end Go.Proofs.YtpnifgpmleaohaaGreatDoor

end

/-! YtpnifgpmleaohaaGreatDoorMatW -/
section

namespace Go.Proofs.YtpnifgpmleaohaaGreatDoor
open Go.RowKit
set_option linter.unusedVariables false

/-- What a function that makes a table (and a mark) leaves. -/
def MatB (w : World) (r c : Int) (zs : List Int) (o : Bool) (e : Ending) (w' : World) : Prop := ∃ v, e = .returned (.tuple #[.agg #[.int .i64 r, .int .i64 c, v], .bool o]) ∧ Row w.heap.size w' v zs ∧ Below w.heap.size w w'
def MatV (w : World) (r c : Int) (zs : List Int) (e : Ending) (w' : World) : Prop := ∃ v, e = .returned (.agg #[.int .i64 r, .int .i64 c, v]) ∧ Row w.heap.size w' v zs ∧ Below w.heap.size w w'
def sameMatB (r c : Int) (xs : List Int) (r' c' : Int) (ys : List Int) : Bool := decide (r = r') && (decide (c = c') && decide (xs = ys))

theorem own_form {w : World} {base : Nat} {e : TypeId} {v : Value} {n : Nat} {xs : List Value} (h : w.ownsRow base e 1 v n xs) : ∃ a c, v = .slice a n c := by
  rcases h.2 with ⟨rfl, rfl⟩ | ⟨g, cap, cur, rfl, _⟩
  · exact ⟨_, _, rfl⟩
  · exact ⟨_, _, rfl⟩
theorem results_row_tmp {P : Program} {fn : Func} {p u : Tmp} {ty : TypeId} (h : fn.results = #[.cell p ty, .tmp u]) (tmps : Array Value) (w : World) (g : Nat) (t : TypeId) (cs : Array Value) (fr : Nat × Nat) (d : TypeDesc)
    (hp : tmps.getD p undef = .pointer (some ⟨g, 0, none⟩)) (hg : w.heap[g]? = some (.cells cs t fr))
    (hu : P.underlying ty = some d) (hd : (match d with | .struct _ | .array _ _ => true | _ => false) = true) (hi : (P.info? ty).map (·.size) = some cs.size) :
    (results fn tmps).run P w = .ok (.tuple #[.agg cs, tmps.getD u undef]) w := by
  rw [results_cell_tmp h, hp]
  simp [asAddr, run_loadVar_row w g t ty cs fr d hg hu hd hi, Result.andThen]

set_option maxRecDepth 100000 in
set_option maxHeartbeats 1600000 in
theorem specOuter_any (w : World) (a1 : Option Addr) (n1 c1 : Nat) (ds : List Int) (a2 : Option Addr) (n2 c2 : Nat) (xs : List Int) (h1 : IntsIn w.heap.size w a1 n1 ds) (h2 : IntsIn w.heap.size w a2 n2 xs) :
    Calls Tryz.prog 222 #[.slice a1 n1 c1, .slice a2 n2 c2] w (MatB w (outR ds xs) (outC ds xs) (outN ds xs) (outB ds xs)) := by
  obtain ⟨i0, hi, hz0, hz1, hz2⟩ := info_parts Tryz.infoI64
  have hal : Below w.heap.size w (w.alloc (.cells #[.int .i64 0, .int .i64 0, .slice none 0 0] 245 (0, 0))) := (Below.refl _ _).alloc (Nat.le_refl _) _
  have hbx := heap_alloc_new w (.cells #[.int .i64 0, .int .i64 0, .slice none 0 0] 245 (0, 0))
  have hsz : (w.alloc (.cells #[.int .i64 0, .int .i64 0, .slice none 0 0] 245 (0, 0))).heap.size = w.heap.size + 1 := by simp
  have l1 := h1.len
  have l2 := h2.len
  have HX := Lib.hid (h1.below hal (Nat.le_refl _))
  have HY := Lib.hid (h2.below hal (Nat.le_refl _))
  have HV1 := fun (w : World) (h : IntsIn w.heap.size w a1 n1 ds) => specVecOk_any w a1 n1 c1 ds h
  have HV2 := fun (w : World) (h : IntsIn w.heap.size w a2 n2 xs) => specVecOk_any w a2 n2 c2 xs h
  have HA := Lib.hid hal
  have HB0 := Lib.hid hbx
  clear h1 h2 hal hbx
  unfold outR outC outN outB
  cases hv : vecOkB ds with
  | false =>
    have ho : bothB ds xs = false := by unfold bothB; rw [hv]; rfl
    rw [ho]
    rw [hv] at HV1
    replace HV1 := Lib.hid HV1
    clear hv ho HV2
    go_enter Tryz.func222, Tryz.ntmps222
    go_wp2_with fail
    generalize w.alloc (.cells #[.int .i64 0, .int .i64 0, .slice none 0 0] 245 (0, 0)) = wa at HX HY HA HB0 hsz ⊢
    refine (HV1.out _ (HX.out.le (by omega))).mono ?_
    rintro e w' ⟨rfl, rfl⟩
    obtain ⟨⟨d0, d1, d2⟩, f0, f1, f2⟩ := cells3 HB0.out
    go_wp2_with fail
    refine bodyPost_ret (results_row_tmp rfl _ _ w.heap.size 245 #[.int .i64 0, .int .i64 0, .slice none 0 0] (0, 0) _ rfl ?_ Tryz.underlying245 rfl (by kernel_rfl)) rfl ?_
    · exact store3 HB0.out _ _ _
    exact ⟨_, rfl, Row.nil _ _, ((HA.out.setCell (Nat.le_refl _) _).setCell (Nat.le_refl _) _).setCell (Nat.le_refl _) _⟩
  | true =>
    rw [hv] at HV1
    replace HV1 := Lib.hid HV1
    cases hu : vecOkB xs with
    | false =>
      have ho : bothB ds xs = false := by unfold bothB; rw [hv, hu]; rfl
      rw [ho]
      rw [hu] at HV2
      replace HV2 := Lib.hid HV2
      clear hv ho hu
      go_enter Tryz.func222, Tryz.ntmps222
      go_wp2_with fail
      generalize w.alloc (.cells #[.int .i64 0, .int .i64 0, .slice none 0 0] 245 (0, 0)) = wa at HX HY HA HB0 hsz ⊢
      refine (HV1.out _ (HX.out.le (by omega))).mono ?_
      rintro e w' ⟨rfl, rfl⟩
      go_wp2_with fail
      refine (HV2.out _ (HY.out.le (by omega))).mono ?_
      rintro e w' ⟨rfl, rfl⟩
      obtain ⟨⟨d0, d1, d2⟩, f0, f1, f2⟩ := cells3 HB0.out
      go_wp2_with fail
      refine bodyPost_ret (results_row_tmp rfl _ _ w.heap.size 245 #[.int .i64 0, .int .i64 0, .slice none 0 0] (0, 0) _ rfl ?_ Tryz.underlying245 rfl (by kernel_rfl)) rfl ?_
      · exact store3 HB0.out _ _ _
      exact ⟨_, rfl, Row.nil _ _, ((HA.out.setCell (Nat.le_refl _) _).setCell (Nat.le_refl _) _).setCell (Nat.le_refl _) _⟩
    | true =>
      have ho : bothB ds xs = true := by unfold bothB; rw [hv, hu]; rfl
      rw [ho, l1, l2]
      rw [hu] at HV2
      replace HV2 := Lib.hid HV2
      have hn6 := (vecOkB_has hv).2.1
      have hm6 := (vecOkB_has hu).2.1
      rw [l1] at hn6
      rw [l2] at hm6
      simp only [if_true, Bool.true_and]
      obtain ⟨F, hF⟩ : ∃ F : Nat → Nat → Int, (fun i k => mulN (ds.getD i 0) (xs.getD k 0)) = F := ⟨_, rfl⟩
      obtain ⟨G, hG⟩ : ∃ G : Nat → Nat → Bool, (fun i k => mulB (ds.getD i 0) (xs.getD k 0)) = G := ⟨_, rfl⟩
      rw [hF, hG]
      have GF := Lib.hid hF
      have GG := Lib.hid hG
      clear hv ho hu l1 l2 hF hG
      go_enter Tryz.func222, Tryz.ntmps222
      go_wp2_with fail
      generalize w.alloc (.cells #[.int .i64 0, .int .i64 0, .slice none 0 0] 245 (0, 0)) = wa at HX HY HA HB0 hsz ⊢
      have hwa : w.heap.size < wa.heap.size := by omega
      clear hsz
      refine (HV1.out _ (HX.out.le (by omega))).mono ?_
      rintro e w' ⟨rfl, rfl⟩
      go_wp2_with fail
      refine (HV2.out _ (HY.out.le (by omega))).mono ?_
      rintro e w' ⟨rfl, rfl⟩
      go_wp2_with fail
      have hb := (Below.refl wa.heap.size wa).alloc (Nat.le_refl _) (.cells #[.int .i64 n1, .int .i64 n2, .slice none 0 0] 245 (0, 0))
      have hbx := heap_alloc_new wa (.cells #[.int .i64 n1, .int .i64 n2, .slice none 0 0] 245 (0, 0))
      have hs2 : wa.heap.size + 1 ≤ (wa.alloc (.cells #[.int .i64 n1, .int .i64 n2, .slice none 0 0] 245 (0, 0))).heap.size := by simp
      generalize wa.alloc (.cells #[.int .i64 n1, .int .i64 n2, .slice none 0 0] 245 (0, 0)) = wb at hb hbx hs2 ⊢
      have HBB := Lib.hid hb
      have HBX := Lib.hid hbx
      clear hb hbx
      go_loopw [7, 8] (fun o i wr => ∃ (j : Nat) (v : Value), j ≤ n1 ∧ i = .int .i64 j ∧ o = .bool (gridB G n2 j) ∧ Row (wa.heap.size + 1) wr v (gridK F n2 j) ∧ wr.heap[wa.heap.size]? = some (.cells #[.int .i64 n1, .int .i64 n2, v] 245 (0, 0)) ∧ Below wa.heap.size wa wr ∧ wa.heap.size + 1 ≤ wr.heap.size) (fun _ i _ => n1 - (intOf i).toNat)
      case atStart => exact ⟨0, .slice none 0 0, Nat.zero_le _, rfl, rfl, Row.nil _ _, HBX.out, HBB.out, hs2⟩
      case round =>
        obtain ⟨j, v, hj, rfl, rfl, hrow, hbx, hb, hs⟩ := hrel
        have HR := Lib.hid hrow
        have HX0 := Lib.hid hbx
        have HB := Lib.hid hb
        clear hrow hbx hb
        obtain ⟨wo, rfl⟩ : ∃ wo : World, wo = wr := ⟨_, rfl⟩
        by_cases hlj : j < n1
        · go_wp2_with fail
          obtain ⟨bj, hbj⟩ : ∃ bj, gridB G n2 j = bj := ⟨_, rfl⟩
          rw [hbj]
          have HBJ := Lib.hid hbj
          clear hbj
          go_loopw [7, 9] (fun o k wr => ∃ (l : Nat) (u : Value), l ≤ n2 ∧ k = .int .i64 l ∧ o = .bool (bj || anyK (G j) l) ∧ Row (wa.heap.size + 1) wr u (gridK F n2 j ++ mapK (F j) l) ∧ wr.heap[wa.heap.size]? = some (.cells #[.int .i64 n1, .int .i64 n2, u] 245 (0, 0)) ∧ Below wa.heap.size wa wr ∧ wa.heap.size + 1 ≤ wr.heap.size) (fun _ k _ => n2 - (intOf k).toNat)
          case atStart => exact ⟨0, v, Nat.zero_le _, rfl, by simp [anyK], by rw [mapK, List.append_nil]; exact HR.out, HX0.out, HB.out, hs⟩
          case round =>
            obtain ⟨l, u, hl, rfl, rfl, hrow, hbx, hb, hs'⟩ := hrel
            have hlen : (gridK F n2 j ++ mapK (F j) l).length = j * n2 + l := by rw [List.length_append, gridK_length, mapK_length]
            obtain ⟨⟨d0, d1, d2⟩, f0, f1, f2⟩ := cells3 hbx
            have HR1 := Lib.hid hrow
            have HX1 := Lib.hid hbx
            have HB1 := Lib.hid hb
            clear hrow hbx hb
            by_cases hll : l < n2
            · obtain ⟨b, o, rfl, hbB, hcell0⟩ := HX.out.cells j hlj
              obtain ⟨b', o', rfl, hbB', hcell0'⟩ := HY.out.cells l hll
              obtain ⟨X, hX⟩ : ∃ X, X = ds.getD j 0 := ⟨_, rfl⟩
              obtain ⟨Y, hY⟩ : ∃ Y, Y = xs.getD l 0 := ⟨_, rfl⟩
              rw [← hX] at hcell0
              rw [← hY] at hcell0'
              have hcell := (HB1.out.cell (p := ⟨b, o + j, none⟩) (by show b < _; omega)).trans hcell0
              have hcell' := (HB1.out.cell (p := ⟨b', o' + l, none⟩) (by show b' < _; omega)).trans hcell0'
              obtain ⟨P, hP⟩ : ∃ P, mulN X Y = P := ⟨_, rfl⟩
              obtain ⟨go, hgo⟩ : ∃ go, mulB X Y = go := ⟨_, rfl⟩
              have eF : F j l = P := by rw [← GF.out, ← hP, hX, hY]
              have eG : G j l = go := by rw [← GG.out, ← hgo, hX, hY]
              obtain ⟨fl, hfl⟩ : ∃ fl, (bj || anyK (G j) l) = fl := ⟨_, rfl⟩
              have e1 : (bj || anyK (G j) (l + 1)) = (fl || go) := by rw [anyK, eG, ← Bool.or_assoc, hfl]
              have e2 : gridK F n2 j ++ mapK (F j) (l + 1) = (gridK F n2 j ++ mapK (F j) l) ++ [P] := by rw [mapK, eF, List.append_assoc]
              have hT := fun w => specFixMul_any X Y w
              rw [hP, hgo] at hT
              have HT := Lib.hid hT
              have E1 := Lib.hid e1
              have E2 := Lib.hid e2
              rw [hfl]
              obtain ⟨zs, hzs⟩ : ∃ zs, gridK F n2 j ++ mapK (F j) l = zs := ⟨_, rfl⟩
              have hz36 : zs.length ≤ 36 := by
                have h1 := place_lt hlj hll
                have h2 := le36 hn6 hm6
                rw [← hzs, hlen]
                omega
              rw [hzs] at HR1 E2
              clear hX hY hcell0 hcell0' hP hgo eF eG hfl hT e1 e2 hzs hlen
              go_wp2_with fail
              go_quiet ((go_at_call 219; refine Calls.quiet_of_same ((HT.out _).mono fun e w' ⟨he, hw⟩ => ⟨he, hw.symm⟩)))
              have hbq : Below wa.heap.size wa (wr.drewN nq) := drewN_below HB1.out nq
              have hrq := HR1.out.drewN nq
              have hxq : (wr.drewN nq).heap[wa.heap.size]? = some (.cells #[.int .i64 n1, .int .i64 n2, u] 245 (0, 0)) := HX1.out
              have hsq : wa.heap.size + 1 ≤ (wr.drewN nq).heap.size := hs'
              clear d0 d1 d2 f0 f1 f2 hcell hcell'
              generalize wr.drewN nq = wq at hbq hrq hxq hsq ⊢
              obtain ⟨⟨d0, d1, d2⟩, f0, f1, f2⟩ := cells3 hxq
              have hown : wq.ownsRow (wa.heap.size + 1) 3 1 _ _ (icells _) := hrq
              have HRQ := Lib.hid hrq
              have HBQ := Lib.hid hbq
              have HXQ := Lib.hid hxq
              clear hrq hbq hxq
              cases fl
              all_goals
                go_wp2_with (at_builtin; refine wpList_append_own _ rfl _ _ 28 rfl (wa.heap.size + 1) 3 i0 (.int .i64 0) 1 8 Tryz.underlying28 hi hz0 hz1 hz2 rfl (by decide) _ _ _ rfl (hown.alloc _) ⟨wq.heap.size, 0, none⟩ 1 1 (icells [P]) rfl rfl (cell_num_put _ _ _) (icells_one _) (by unfold maxLen; omega) (by omega) (by simp; omega) ?_; intro v' w2 hown' hgrow _; obtain ⟨a3, c3, rfl⟩ := own_form hown'; have hput := Row.put HRQ.out hsq _ hown' hgrow; have hx2 := (hput.2.block wa.heap.size (Nat.lt_succ_self _)).trans HXQ.out; have hs3 := hput.2.size; clear hown' hgrow hown d0 d1 d2 f0 f1 f2; obtain ⟨⟨d0, d1, d2⟩, f0, f1, f2⟩ := cells3 hx2; have HP1 := Lib.hid hput.1; have HP2 := Lib.hid hput.2; have HX2 := Lib.hid hx2; clear hput hx2)
                go_roundw
                case rel => exact ⟨l + 1, _, by omega, by go_num, by rw [E1.out]; rfl, by rw [E2.out]; exact HP1.out.setBelow (by exact Nat.lt_succ_self _) _, by have := heap_setCell_same _ wa.heap.size 2 _ _ (.slice a3 (zs.length + 1) c3) HX2.out; exact this, (HBQ.out.trans (HP2.out.mono (by omega))).setCell (Nat.le_refl _) _, by simp; omega⟩
                case measure => simp [intOf]; omega
            · obtain rfl : l = n2 := by omega
              go_wp2_with fail
              go_roundw
              case rel => exact ⟨j + 1, u, by omega, by go_num, by rw [gridB, HBJ.out], HR1.out, HX1.out, HB1.out, hs'⟩
              case measure => simp [intOf]; omega
        · obtain rfl : j = n1 := by omega
          obtain ⟨a4, c4, rfl, -⟩ := HR.out.form
          obtain ⟨⟨d0, d1, d2⟩, f0, f1, f2⟩ := cells3 HX0.out
          have hr0 := (HB.out.block w.heap.size (by omega)).trans HB0.out
          obtain ⟨⟨g0, g1, g2⟩, k0, k1, k2⟩ := cells3 hr0
          have HR0 := Lib.hid hr0
          clear hr0
          go_wp2_with fail
          refine bodyPost_ret (results_row_tmp rfl _ _ w.heap.size 245 #[.int .i64 j, .int .i64 n2, .slice a4 (gridK F n2 j).length c4] (0, 0) _ rfl ?_ Tryz.underlying245 rfl (by kernel_rfl)) rfl ?_
          · exact store3 HR0.out _ _ _
          exact ⟨_, rfl, (((HR.out.setBelow (by show w.heap.size < _; omega) _).setBelow (by show w.heap.size < _; omega) _).setBelow (by show w.heap.size < _; omega) _).le (by omega), (((HA.out.trans (HB.out.mono (by omega))).setCell (Nat.le_refl _) _).setCell (Nat.le_refl _) _).setCell (Nat.le_refl _) _⟩
end Go.Proofs.YtpnifgpmleaohaaGreatDoor

end

/-! YtpnifgpmleaohaaGreatDoorMatT -/
section

namespace Go.Proofs.YtpnifgpmleaohaaGreatDoor
open Go.RowKit
set_option linter.unusedVariables false

theorem ints_news {B : Nat} {w : World} {b o n : Nat} {xs : List Int} (h : IntsIn B w (some ⟨b, o, none⟩) n xs) : ∀ j u, (icells xs)[j]? = some u → w.cell? ((⟨b, o, none⟩ : Addr).add j) = some u := by
  intro j u hu
  have hj : j < xs.length := by
    have := (List.getElem?_eq_some_iff.1 hu).1
    rwa [icells_length] at this
  obtain ⟨b', o', e, _, hc⟩ := h.cells j (by rw [← h.len]; exact hj)
  cases e
  rw [icells_get xs j hj] at hu
  cases hu
  rw [Addr.add_lit]
  exact hc

end Go.Proofs.YtpnifgpmleaohaaGreatDoor

end
