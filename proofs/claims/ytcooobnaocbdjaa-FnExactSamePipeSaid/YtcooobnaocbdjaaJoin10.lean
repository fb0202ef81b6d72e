import Derived.Test.YtcooobnaocbdjaaJoin9
import Derived.Test.YtcooobnaocbdjaaJoin1
import Derived.Deep.QuietTactic
import Derived.BigQuiet
import Derived.Deep.DeepCutAuto
import Derived.Deep.RegionLaw
import Derived.Lib.QuietBelow
import Derived.Test.YtcooobnaocbdjaaJoin7
/-! YtcooobnaocbdjaaPIns -/
section

namespace Go.Proofs.Ytcooobnaocbdjaa
open Go.RowKit Go.Sort
set_option linter.unusedVariables false

theorem infoIns : (Try.prog.info? 29).map (fun i => (i.zero, i.size, i.bytes)) = some (some (.agg #[.int .i64 0, .int .i64 0]), 2, 16) := by kernel_rfl
abbrev InsR := TwoR 29
abbrev shIns := shTwo

set_option maxRecDepth 100000 in
theorem szInsS_any (w : World) (a : Option Addr) (n c : Nat) (L : Int) (hn : n ≤ 9223372036854775807) (h0 : 0 ≤ L) (h1 : L ≤ 1048576) :
    Calls Try.prog 87 #[.slice a n c, .int .i64 L] w fun e w' => e = .returned (.int .i64 (szN n L)) ∧ Below w.heap.size w w' := by
  by_cases hL : (n : Int) ≤ L
  · rw [szN_yes hL]
    go_enter Try.func87, Try.ntmps87
    go_wp2_with fail
    go_ret
    exact ⟨rfl, Below.refl _ _⟩
  · rw [szN_no hL]
    go_enter Try.func87, Try.ntmps87
    go_wp2_with fail
    go_ret
    exact ⟨rfl, Below.refl _ _⟩

set_option maxRecDepth 100000 in
theorem toIns_any (w : World) (k m : Int) :
    Calls Try.prog 112 #[.agg #[.int .i64 k, .int .i64 m]] w fun e w' => e = .returned (.agg #[.int .i64 k, .int .i64 m]) ∧ Below w.heap.size w w' := by
  go_enter Try.func112, Try.ntmps112
  go_wp2_with fail
  have hbx := Boxes.start w #[.int .i64 k, .int .i64 m] #[.int .i64 k, .int .i64 m] #[.int .i64 k, .int .i64 m] 155 29
  refine bodyPost_ret (results_cell_row rfl _ _ (w.heap.size + 1) 29 #[.int .i64 k, .int .i64 m] (0, 0) _ rfl hbx.z Try.underlying29 rfl (by kernel_rfl)) rfl ?_
  exact ⟨rfl, hbx.below⟩
set_option maxRecDepth 100000 in
theorem eqIns_any (w : World) (k m k' m' : Int) :
    Calls Try.prog 12 #[.agg #[.int .i64 k, .int .i64 m], .agg #[.int .i64 k', .int .i64 m']] w fun e w' => e = .returned (.bool (decide ((k, m) = (k', m')))) ∧ Below w.heap.size w w' := by
  obtain ⟨R, hR⟩ : ∃ R, decide ((k, m) = (k', m')) = R := ⟨_, rfl⟩
  rw [hR]
  have hal : Below w.heap.size w ((w.alloc (.cells #[.int .i64 k, .int .i64 m] 29 (0, 0))).alloc (.cells #[.int .i64 k', .int .i64 m'] 29 (0, 0))) := ((Below.refl _ _).alloc (Nat.le_refl _) _).alloc (by simp) _
  by_cases hk : k = k'
  · subst hk
    by_cases hm : m = m'
    · subst hm
      obtain rfl : R = true := by rw [← hR]; exact decide_eq_true rfl
      go_enter Try.func12, Try.ntmps12
      go_wp2_with fail
      go_ret
      exact ⟨rfl, hal⟩
    · obtain rfl : R = false := by rw [← hR]; exact decide_eq_false fun e => hm (by cases e; rfl)
      have hne : (m == m') = false := by simpa using hm
      go_enter Try.func12, Try.ntmps12
      go_wp2_with fail
      go_ret
      exact ⟨rfl, hal⟩
  · obtain rfl : R = false := by rw [← hR]; exact decide_eq_false fun e => hk (by cases e; rfl)
    have hne : (k == k') = false := by simpa using hk
    go_enter Try.func12, Try.ntmps12
    go_wp2_with fail
    go_ret
    exact ⟨rfl, hal⟩

set_option maxRecDepth 100000 in
theorem toInsS_any (B : Nat) (w : World) (a : Option Addr) (n cap : Nat) (xs : List dTwo) (h : TwoIn B w a n xs) (hB : B ≤ w.heap.size) :
    Calls Try.prog 94 #[.slice a n cap] w fun e w' => e = .returned (.slice (some ⟨w.heap.size, 0, none⟩) n n) ∧ InsR w.heap.size w' (.slice (some ⟨w.heap.size, 0, none⟩) n n) xs ∧ Below w.heap.size w w' := by
  have hroom := h.room
  have H := Lib.hid h
  have hmk := fun (w : World) => run_make_many (P := Try.prog) 55 29 (.agg #[.int .i64 0, .int .i64 0]) 2 16 Try.underlying55 infoIns n (by omega) (by omega) w
  obtain ⟨Z, hZ⟩ : ∃ Z, Z = madeCells (Value.cells (.agg #[.int .i64 0, .int .i64 0])) (n * 2) := ⟨_, rfl⟩
  have hZl : Z.toList = tcells (List.replicate n (0, 0)) := by
    rw [hZ, tcells_fill]
    exact made_two (.int .i64 0) (n * 2)
  have hZs : Z.size = n * 2 := by have := congrArg List.length hZl; simpa [tcells_length] using this
  rw [← hZ] at hmk
  have HZ := Lib.hid hZl
  have HS := Lib.hid hZs
  clear hZl hZs hZ h
  have hown : (w.alloc (.cells Z 29)).ownsRow w.heap.size 29 2 (.slice (some ⟨w.heap.size, 0, none⟩) n n) n (tcells (xs.take 0 ++ List.replicate (n - 0) (0, 0))) := by
    refine ⟨by simp [tcells_length], .inr ⟨_, _, Z, rfl, Nat.le_refl _, heap_alloc_new w _, Nat.le_refl _, by unfold maxLen; omega, by rw [HS.out], ?_⟩⟩
    rw [HZ.out]
    rw [List.take_zero, Nat.sub_zero, List.nil_append]
    exact List.take_of_length_le (by rw [tcells_length]; simp)
  have HO := Lib.hid hown
  clear hown
  go_enter Try.func94, Try.ntmps94
  go_wp2_with fail
  go_loopw [4] (fun i wr => ∃ k : Nat, k ≤ n ∧ i = .int .i64 k ∧ wr.ownsRow w.heap.size 29 2 (.slice (some ⟨w.heap.size, 0, none⟩) n n) n (tcells (xs.take k ++ List.replicate (n - k) (0, 0))) ∧ Below w.heap.size w wr) (fun i _ => n - (intOf i).toNat)
  case atStart => exact ⟨0, Nat.zero_le _, rfl, HO.out, (Below.refl _ _).alloc (Nat.le_refl _) _⟩
  case round =>
    obtain ⟨k, hk, rfl, hown, hb⟩ := hrel
    have HW := Lib.hid hown
    have HB := Lib.hid hb
    clear hown hb
    by_cases hlt : k < n
    · obtain ⟨b, o, rfl, hbB, hc0, hc1⟩ := H.out.cells k hlt
      obtain ⟨X, hX⟩ : ∃ X, X = (xs.getD k (0, 0)).1 := ⟨_, rfl⟩
      obtain ⟨Y, hY⟩ : ∃ Y, Y = (xs.getD k (0, 0)).2 := ⟨_, rfl⟩
      rw [← hX] at hc0
      rw [← hY] at hc1
      have d0 := (HB.out.cell (p := ⟨b, o + k * 2, none⟩) (Nat.lt_of_lt_of_le hbB hB)).trans hc0
      have d1 := (HB.out.cell (p := ⟨b, o + k * 2 + 1, none⟩) (Nat.lt_of_lt_of_le hbB hB)).trans hc1
      have HC := Lib.hid fun (wx : World) => toIns_any wx X Y
      have HX := Lib.hid hX
      have HY := Lib.hid hY
      clear hX hY hc0 hc1
      go_wp2_with fail
      refine (HC.out _).mono ?_
      rintro e w1 ⟨rfl, hb⟩
      have hW1 : w1.ownsRow w.heap.size 29 2 (.slice (some ⟨w.heap.size, 0, none⟩) n n) n (tcells (xs.take k ++ List.replicate (n - k) (0, 0))) := World.ownsRow.kept HW.out (row := none) ⟨hb.os, hb.tape, hb.output, hb.size, fun b hb' _ => hb.block b hb'⟩ (.inr (by simp [Value.ownBlock]))
      have HW1 := Lib.hid hW1
      have HB1 := Lib.hid (HB.out.trans (hb.mono HB.out.size))
      have f0 := hW1.frozenAt (k * 2)
      have f1 := hW1.frozenAt (k * 2 + 1)
      have hL : (tcells (xs.take k ++ List.replicate (n - k) (0, 0))).length = n * 2 := hW1.1
      obtain ⟨u0, hu0⟩ : ∃ u, w1.cell? ⟨w.heap.size, k * 2, none⟩ = some u := by
        rw [hW1.cellAt _ (by omega)]
        exact ⟨_, List.getElem?_eq_getElem (by omega)⟩
      obtain ⟨u1, hu1⟩ : ∃ u, w1.cell? ⟨w.heap.size, k * 2 + 1, none⟩ = some u := by
        rw [hW1.cellAt _ (by omega)]
        exact ⟨_, List.getElem?_eq_getElem (by omega)⟩
      clear hb hW1 hL
      go_wp2_with fail
      obtain ⟨hs1, hs2⟩ := HW1.out.stored (k * 2) (.int .i64 X)
      obtain ⟨hs3, hs4⟩ := hs1.stored (k * 2 + 1) (.int .i64 Y)
      go_roundw
      case rel =>
        refine ⟨k + 1, by omega, by go_num, ?_, (HB1.out.setCell (by exact Nat.le_refl _) _).setCell (by exact Nat.le_refl _) _⟩
        have e : ((tcells (xs.take k ++ List.replicate (n - k) (0, 0))).set (k * 2) (.int .i64 X)).set (k * 2 + 1) (.int .i64 Y) = tcells (xs.take (k + 1) ++ List.replicate (n - (k + 1)) (0, 0)) := by
          rw [HX.out, HY.out, tcells_set _ _ (xs.getD k (0, 0)), show n - k = (n - (k + 1)) + 1 by omega, tset_fill _ _ _ (by rw [H.out.len]; exact hlt)]
        rw [← e]
        exact hs3
      case measure => simp [intOf]; omega
    · have hkn : k = n := by omega
      subst hkn
      go_wp2_with fail
      go_ret
      refine ⟨rfl, ?_, HB.out⟩
      have := HW.out
      rw [List.take_of_length_le (by rw [H.out.len]; omega), Nat.sub_self, List.replicate_zero, List.append_nil] at this
      unfold InsR TwoR
      rw [H.out.len]
      exact this

set_option maxRecDepth 100000 in
theorem eqInsS_same (w : World) (a1 : Option Addr) (n c1 : Nat) (xs : List dTwo) (a2 : Option Addr) (c2 : Nat) (h1 : TwoIn w.heap.size w a1 n xs) (h2 : TwoIn w.heap.size w a2 n xs) :
    Calls Try.prog 101 #[.slice a1 n c1, .slice a2 n c2] w fun e w' => e = .returned (.bool true) ∧ Below w.heap.size w w' := by
  have hr1 := h1.room
  have H1 := Lib.hid h1
  have H2 := Lib.hid h2
  clear h1 h2
  go_enter Try.func101, Try.ntmps101
  go_wp2_with fail
  go_loopw [5] (fun i wr => ∃ k : Nat, k ≤ n ∧ i = .int .i64 k ∧ Below w.heap.size w wr) (fun i _ => n - (intOf i).toNat)
  case atStart => exact ⟨0, Nat.zero_le _, rfl, Below.refl _ _⟩
  case round =>
    obtain ⟨k, hk, rfl, hbw⟩ := hrel
    by_cases hlt : k < n
    · obtain ⟨b, o, rfl, hbB, hc0, hc1⟩ := H1.out.cells k hlt
      obtain ⟨b', o', rfl, hbB', hc0', hc1'⟩ := H2.out.cells k hlt
      obtain ⟨X, hX⟩ : ∃ X, X = xs.getD k (0, 0) := ⟨_, rfl⟩
      rw [← hX] at hc0 hc1 hc0' hc1'
      obtain ⟨X1, X2⟩ := X
      have hsz := hbw.size
      have c0 := (hbw.cell (p := ⟨b, o + k * 2, none⟩) hbB).trans hc0
      have c1 := (hbw.cell (p := ⟨b, o + k * 2 + 1, none⟩) hbB).trans hc1
      have d0 := (hbw.cell (p := ⟨b', o' + k * 2, none⟩) hbB').trans hc0'
      have d1 := (hbw.cell (p := ⟨b', o' + k * 2 + 1, none⟩) hbB').trans hc1'
      have HC := Lib.hid fun wx : World => eqIns_any wx X1 X2 X1 X2
      have HBW := Lib.hid hbw
      clear hX hc0 hc1 hc0' hc1' hbw
      rw [decide_eq_true rfl] at HC
      go_upto_region 6 with fail
      have k0 := cell_regrown c0
      have k1 := cell_regrown c1
      have l0 := cell_regrown d0
      have l1 := cell_regrown d1
      have cC := fun d os => Calls.regrown_of (w := wr) (d := d) (os := os) (HC.out _)
      have CC := Lib.hid cC
      clear c0 c1 d0 d1 cC
      refine wp_region_quiet_below (by kernel_rfl) (by kernel_rfl) ?_
      repeat (go_big_quiet_step (with_reducible first | exact CC.out _ _))
      refine wpQuiet_nil ?_
      intro _ hw'
      obtain ⟨⟨dq, osq⟩, hw''⟩ := hw'
      subst hw''
      have hwq := below_regrown wr dq osq
      generalize grow (redrawn wr dq) osq = w1 at hwq ⊢
      have HW := Lib.hid hwq
      clear hwq k0 k1 l0 l1
      go_wp2_with fail
      go_round
      case rel => exact ⟨k + 1, by omega, by go_num, HBW.out.trans (HW.out.mono hsz)⟩
      case measure => simp [intOf]; omega
    · obtain rfl : k = n := by omega
      have HBW := Lib.hid hbw
      clear hbw
      go_wp2_with fail
      go_ret
      exact ⟨rfl, HBW.out⟩

end Go.Proofs.Ytcooobnaocbdjaa

end

/-! YtcooobnaocbdjaaPInsD -/
section

namespace Go.Proofs.Ytcooobnaocbdjaa
open Go.RowKit
set_option linter.unusedVariables false

abbrev dIns := dTwo
theorem shIns_size : shIns.size = 2 := rfl
theorem bulk_ins (xs : List dIns) : (Shape.list shIns).bulk xs = xs.length := by
  have h : ∀ l : List dIns, Shape.sum shIns.bulk l = 0 := fun l => by
    induction l with
    | nil => rfl
    | cons x l ih =>
      have e : Shape.sum shIns.bulk (x :: l) = shIns.bulk x + Shape.sum shIns.bulk l := rfl
      rw [e, ih]
      rfl
  show xs.length + Shape.sum shIns.bulk xs = xs.length
  rw [h, Nat.add_zero]
theorem szInsS_c (w : World) (B : Nat) (a : Option Addr) (n c : Nat) (xs : List dIns) (L : Int) (h : ListAt shIns (Under B) w a n xs) (hB : B ≤ w.heap.size) (hn : n ≤ 9223372036854775807) (h0 : 0 ≤ L) (h1 : L ≤ 1048576) :
    Calls Try.prog 87 #[.slice a n c, .int .i64 L] w fun e w' => e = .returned (.int .i64 (szN ((Shape.list shIns).bulk xs) L)) ∧ Below w.heap.size w w' := by
  rw [bulk_ins, h.1]
  exact szInsS_any w a n c L hn h0 h1
theorem ListAt.twoIn {B : Nat} {w : World} {a : Option Addr} {n : Nat} {xs : List dIns} (h : ListAt shIns (Under B) w a n xs) (hB : B ≤ w.heap.size) (hb : (Shape.list shIns).bulk xs ≤ 1048576) : TwoIn w.heap.size w a n xs := by
  rw [bulk_ins, h.1] at hb
  exact (h.two hb).le hB
/-- A row of pairs of the call's own, as a list. -/
theorem TwoR.listAt {T : TypeId} {base : Nat} {w : World} {v : Value} {xs : List dTwo} (h : TwoR T base w v xs) : (Shape.list shTwo).reads (From base w.heap.size) w [v] xs := by
  have hcs := fun g (h' : v.ownBlock = some g) => World.ownsRow.cells h (g := g) h'
  have hlt := World.ownsRow.lt h
  rcases h.2 with ⟨rfl, hn⟩ | ⟨g, cap, cur, rfl, _, hg, hc, hm, _⟩
  · obtain rfl : xs = [] := List.eq_nil_of_length_eq_zero hn
    exact ⟨none, 0, 0, rfl, Nat.le_refl _, by omega, rfl, fun j x hx => by simp at hx⟩
  · unfold maxLen at hm
    refine ⟨_, xs.length, cap, rfl, by omega, by omega, rfl, fun j x hx => ?_⟩
    have hj := (List.getElem?_eq_some_iff.1 hx).1
    have hxe : xs.getD j (0, 0) = x := by rw [List.getD_eq_getElem?_getD, hx]; rfl
    refine ⟨g, 0, [.int .i64 x.1, .int .i64 x.2], rfl, hlt g rfl, fun i v hv => ?_, shTwo_reads.2 rfl⟩
    have e0 := hcs g rfl _ _ (tcells_get0 xs j hj)
    have e1 := hcs g rfl _ _ (tcells_get1 xs j hj)
    rw [Addr.add_lit, hxe] at e0 e1
    match i, hv with
    | 0, hv => cases hv; simpa [shTwo_size] using e0
    | 1, hv => cases hv; simpa [shTwo_size] using e1
    | i + 2, hv => simp at hv
theorem toInsS_c (w : World) (B : Nat) (a : Option Addr) (n c : Nat) (xs : List dIns) (h : ListAt shIns (Under B) w a n xs) (hB : B ≤ w.heap.size) (hb : (Shape.list shIns).bulk xs ≤ 1048576) :
    Calls Try.prog 94 #[.slice a n c] w fun e w' => e = .returned (.slice (some ⟨w.heap.size, 0, none⟩) n n) ∧ ListAt shIns (From w.heap.size w'.heap.size) w' (some ⟨w.heap.size, 0, none⟩) n xs ∧ Below w.heap.size w w' := by
  refine (toInsS_any w.heap.size w a n c xs (h.twoIn hB hb) (Nat.le_refl _)).mono ?_
  rintro e w' ⟨rfl, hr, hbw⟩
  obtain ⟨a', n', c', e', _, _, hr'⟩ := TwoR.listAt hr
  cases e'
  exact ⟨rfl, hr', hbw⟩
theorem eqInsS_c (w : World) (B B' : Nat) (a a' : Option Addr) (n c c' : Nat) (xs : List dIns) (h : ListAt shIns (Under B) w a n xs) (h' : ListAt shIns (Under B') w a' n xs) (hB : B ≤ w.heap.size) (hB' : B' ≤ w.heap.size) (hb : (Shape.list shIns).bulk xs ≤ 1048576) :
    Calls Try.prog 101 #[.slice a n c, .slice a' n c'] w fun e w' => e = .returned (.bool true) ∧ Below w.heap.size w w' :=
  eqInsS_same w a n c xs a' c' (h.twoIn hB hb) (h'.twoIn hB' hb)
end Go.Proofs.Ytcooobnaocbdjaa

end
