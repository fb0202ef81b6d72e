import Derived.Test.YtpnifgpmleaohaaGreatDoorJoin30
import Derived.Test.YtpnifgpmleaohaaGreatDoorJoin3
import Derived.Test.YtpnifgpmleaohaaGreatDoorJoin7
import Derived.Test.YtpnifgpmleaohaaGreatDoorJoin13
import Derived.Test.YtpnifgpmleaohaaGreatDoorJoin26
/-! YtpnifgpmleaohaaGreatDoorDrawNum -/
section

namespace Go.Proofs.YtpnifgpmleaohaaGreatDoor
open Go.RowKit
set_option linter.unusedVariables false

theorem tdiv_abs {x y : Int} (h0 : 1 ≤ y) {m : Int} (hx0 : -m ≤ x) (hx1 : x ≤ m) : -m ≤ x.tdiv y ∧ x.tdiv y ≤ m := by
  have h : (x.tdiv y).natAbs = x.natAbs / y.natAbs := Int.natAbs_tdiv x y
  have h1 : x.natAbs / y.natAbs ≤ x.natAbs := Nat.div_le_self _ _
  generalize x.natAbs / y.natAbs = q at h h1
  generalize x.tdiv y = z at h ⊢
  omega

set_option maxRecDepth 100000 in
theorem l2Fix_e (B : Nat) (w : World) (C : Nat) (hc : Cu B w C) :
    Calls Tryz.prog 139 #[.pointer (some ⟨C, 0, none⟩)] w (DrewI (fun x => -2147483647 ≤ x ∧ x ≤ 2147483647) B w C) := by
  have HC := Lib.hid hc
  clear hc
  go_enter Tryz.func139, Tryz.ntmps139
  go_wp2_with fail
  refine (l1Below_e B _ C 12 (by omega) HC.out).mono ?_
  rintro e w1 ⟨k, rfl, ⟨k0, k1⟩, ht1⟩
  have hlt1 := ht1.cu.lt
  by_cases e0 : k = 0
  · subst e0
    go_wp2_with fail
    refine (l1PickInt_e B _ C w1.heap.size 6 [2147483647, -2147483647, 2147483646, 1, -1, 0] (fun x => -2147483647 ≤ x ∧ x ≤ 2147483647) rfl (by omega) (by omega) (by decide) (ht1.cu.alloc _) (by omega) (fun j hj => ints_cells w1 _ _ j hj)).mono ?_
    rintro e w2 ⟨x, rfl, hx, ht2⟩
    go_wp2_with fail
    go_ret
    exact ⟨x, rfl, hx, (ht1.alloc _).trans ht2⟩
  · have t0 : (k == 0) = false := by simpa using e0
    by_cases e1 : k = 1
    · subst e1
      go_wp2_with fail
      refine (l1Below_e B _ C 4000 (by omega) ht1.cu).mono ?_
      rintro e w2 ⟨x, rfl, ⟨x0, x1⟩, ht2⟩
      go_wp2_with fail
      go_ret
      exact ⟨_, rfl, ⟨by omega, by omega⟩, ht1.trans ht2⟩
    · have t1 : (k == 1) = false := by simpa using e1
      by_cases e2 : k = 2
      · subst e2
        go_wp2_with fail
        refine (l1Below_e B _ C 9 (by omega) ht1.cu).mono ?_
        rintro e w2 ⟨x, rfl, ⟨x0, x1⟩, ht2⟩
        go_wp2_with fail
        go_ret
        exact ⟨_, rfl, ⟨by omega, by omega⟩, ht1.trans ht2⟩
      · have t2 : (k == 2) = false := by simpa using e2
        clear e0 e1 e2
        go_wp2_with fail
        refine (l1Below_e B _ C 17 (by omega) ht1.cu).mono ?_
        rintro e w2 ⟨x, rfl, ⟨x0, x1⟩, ht2⟩
        have ht12 := ht1.trans ht2
        have hlt2 := ht12.cu.lt
        go_wp2_with fail
        refine (l1PickInt_e B _ C w2.heap.size 5 [1, 1, 2, 4, 3] (fun x => 1 ≤ x ∧ x ≤ 4) rfl (by omega) (by omega) (by decide) (ht12.cu.alloc _) (by omega) (fun j hj => ints_cells w2 _ _ j hj)).mono ?_
        rintro e w3 ⟨y, rfl, ⟨y0, y1⟩, ht3⟩
        have hq := tdiv_abs (x := (x - 8) * 65536) y0 (m := 524288) (by omega) (by omega)
        have hy : (y == 0) = false := by rw [beq_eq_false_iff_ne]; omega
        have HQ := Lib.hid hq
        have HW := Lib.hid (IntWalk.wrap64_in (((x - 8) * 65536).tdiv y) (by omega))
        clear hq
        go_wp2_with fail
        go_ret
        refine ⟨((x - 8) * 65536).tdiv y, ?_, ⟨by have := HQ.out; omega, by have := HQ.out; omega⟩, (ht12.alloc _).trans ht3⟩
        first | rfl | exact fix_ret HW.out

set_option maxRecDepth 100000 in
theorem l2Raw_e (B : Nat) (w : World) (C : Nat) (hc : Cu B w C) :
    Calls Tryz.prog 140 #[.pointer (some ⟨C, 0, none⟩)] w (DrewI (fun x => -9223372036854775808 ≤ x ∧ x ≤ 9223372036854775807) B w C) := by
  have HC := Lib.hid hc
  clear hc
  go_enter Tryz.func140, Tryz.ntmps140
  go_wp2_with fail
  refine (l1Once_e B _ C 8 HC.out).mono ?_
  rintro e w1 ⟨k, rfl, ht1⟩
  have hlt1 := ht1.cu.lt
  cases k
  · go_wp2_with fail
    refine (l2Fix_e B _ C ht1.cu).mono ?_
    rintro e w2 ⟨x, rfl, ⟨x0, x1⟩, ht2⟩
    go_wp2_with fail
    go_ret
    exact ⟨_, rfl, ⟨by omega, by omega⟩, ht1.trans ht2⟩
  · go_wp2_with fail
    refine (l1PickInt_e B _ C w1.heap.size 4 [2147483648, -2147483648, 9223372036854775807, -9223372036854775807] (fun x => -9223372036854775808 ≤ x ∧ x ≤ 9223372036854775807) rfl (by omega) (by omega) (by decide) (ht1.cu.alloc _) (by omega) (fun j hj => ints_cells w1 _ _ j hj)).mono ?_
    rintro e w2 ⟨x, rfl, hx, ht2⟩
    go_wp2_with fail
    go_ret
    exact ⟨x, rfl, hx, (ht1.alloc _).trans ht2⟩
end Go.Proofs.YtpnifgpmleaohaaGreatDoor

end

/-! YtpnifgpmleaohaaGreatDoorVecX -/
section

namespace Go.Proofs.YtpnifgpmleaohaaGreatDoor
open Go.RowKit
set_option linter.unusedVariables false

end Go.Proofs.YtpnifgpmleaohaaGreatDoor

end

/-! YtpnifgpmleaohaaGreatDoorDrawVec -/
section

namespace Go.Proofs.YtpnifgpmleaohaaGreatDoor
open Go.RowKit
set_option linter.unusedVariables false

theorem Turned.put {B : Nat} {w w1 w2 : World} {C : Nat} {v : Value} {zs : List Int} (h : Turned B w w1 C) (hC : C < w.heap.size) (hrow : Row w.heap.size w1 v zs) (o : Obj) (hg : (w1.alloc o).grownBy w2 v.ownBlock) : Turned B w w2 C := by
  have hup := h.1.up
  refine ⟨(h.1.alloc o).grown hg (fun k hk => ?_), ?_⟩
  · have := (hrow.lt k hk).1
    exact ⟨by omega, by omega⟩
  · have hs := h.size
    refine ⟨hg.os.trans h.2.os, hg.tape.trans h.2.tape, hg.output.trans h.2.output, Nat.le_trans h.2.size (Nat.le_trans (by simp) hg.size), fun b hb hne => ?_⟩
    rw [hg.block b (by simp; omega) (fun e => by have := (hrow.lt b e.symm).1; omega), Below.heap_alloc _ _ _ (by omega)]
    exact h.2.block b hb hne
theorem Turned.store {B : Nat} {w w1 w2 : World} {C : Nat} {g : Nat} (h : Turned B w w1 C) (hC : C < w.heap.size) (hg : w1.grownBy w2 (some g)) (hge : w.heap.size ≤ g) : Turned B w w2 C := by
  have hup := h.1.up
  refine ⟨h.1.grown hg (fun k hk => ?_), ?_⟩
  · cases hk; exact ⟨by omega, by omega⟩
  · have hs := h.size
    refine ⟨hg.os.trans h.2.os, hg.tape.trans h.2.tape, hg.output.trans h.2.output, Nat.le_trans h.2.size hg.size, fun b hb hne => ?_⟩
    rw [hg.block b (by omega) (fun e => by cases e; omega)]
    exact h.2.block b hb hne
theorem Row.turned {base B : Nat} {w w' : World} {C : Nat} {v : Value} {zs : List Int} (h : Row base w v zs) (hC : C < base) (ht : Turned B w w' C) : Row base w' v zs :=
  h.kept ht.2 (by
    cases e : v.ownBlock with
    | none => exact .inl rfl
    | some g =>
      refine .inr fun e2 => ?_
      have := h.lt g e
      cases e2
      omega)

theorem Row.first {base : Nat} {w : World} {v : Value} {xs : List Int} (h : Row base w v xs) (hn : 0 < xs.length) : ∃ g cap, v = .slice (some ⟨g, 0, none⟩) xs.length cap ∧ base ≤ g ∧ g < w.heap.size := by
  have hlt := World.ownsRow.lt h
  rcases h.2 with ⟨_, h0⟩ | ⟨g, cap, cur, rfl, _⟩
  · omega
  · exact ⟨g, cap, rfl, hlt g rfl⟩
/-- A row of numbers was drawn. -/
def DrewV (P : List Int → Prop) (B : Nat) (w : World) (C : Nat) (e : Ending) (w' : World) : Prop := ∃ v xs, e = .returned v ∧ P xs ∧ Row w.heap.size w' v xs ∧ Turned B w w' C

set_option maxRecDepth 100000 in
theorem l3Vec_e (B : Nat) (w : World) (C : Nat) (n : Nat) (hn : n ≤ 100) (hc : Cu B w C) :
    Calls Tryz.prog 65 #[.pointer (some ⟨C, 0, none⟩), .int .i64 n] w (DrewV (fun xs => xs.length = n) B w C) := by
  obtain ⟨i0, hi, hz0, hz1, hz2⟩ := info_parts Tryz.infoI64
  have HC := Lib.hid hc
  have hlt := hc.lt
  clear hc
  go_enter Tryz.func65, Tryz.ntmps65
  go_wp2_with fail
  go_loopw [5, 6] (fun m i wr => ∃ (k : Nat) (xs : List Int), k ≤ n ∧ i = .int .i64 k ∧ Hid (xs.length = k) ∧ Row w.heap.size wr m xs ∧ Turned B w wr C) (fun _ i _ => n - (intOf i).toNat)
  case atStart => exact ⟨0, [], Nat.zero_le _, rfl, Lib.hid rfl, Row.empty w _ rfl, (Turned.refl HC.out).alloc _⟩
  case round =>
    obtain ⟨k, xs, hk, rfl, hl, hrow, ht⟩ := hrel
    have HR := Lib.hid hrow
    have HT := Lib.hid ht
    clear hrow ht
    by_cases hlk : k < n
    · go_wp2_with fail
      refine (l2Fix_e B _ C HT.out.cu).mono ?_
      rintro e w2 ⟨x, rfl, _, ht2⟩
      have hr2 := HR.out.turned hlt ht2
      have ht2' := HT.out.trans ht2
      have hsz := ht2'.size
      have hown : w2.ownsRow w.heap.size 3 1 _ xs.length (icells xs) := hr2
      have hxl : xs.length ≤ 100 := by rw [hl.out]; omega
      have HR2 := Lib.hid hr2
      have HT2 := Lib.hid ht2'
      clear ht2 hr2 ht2'
      go_wp2_with (at_builtin; refine wpList_append_own _ rfl _ _ 28 rfl w.heap.size 3 i0 (.int .i64 0) 1 8 Tryz.underlying28 hi hz0 hz1 hz2 rfl (by decide) _ _ _ rfl (hown.alloc _) ⟨w2.heap.size, 0, none⟩ 1 1 (icells [x]) rfl rfl (cell_num_put _ _ _) (icells_one _) (by unfold maxLen; omega) (by omega) (by simp; omega) ?_; intro v' w3 hown' hgrow _)
      have hput := Row.put HR2.out hsz _ hown' hgrow
      have htt := HT2.out.put hlt HR2.out _ hgrow
      clear hown' hgrow hown
      go_wp2_with fail
      go_roundw
      case rel => exact ⟨k + 1, xs ++ [x], by omega, by go_num, Lib.hid (by rw [List.length_append, hl.out]; rfl), hput.1, htt⟩
      case measure => simp [intOf]; omega
    · obtain rfl : k = n := by omega
      go_wp2_with fail
      go_ret
      exact ⟨_, xs, rfl, hl.out, HR.out, HT.out⟩

set_option maxRecDepth 100000 in
theorem l3Any_e (B : Nat) (w : World) (C : Nat) (hc : Cu B w C) :
    Calls Tryz.prog 67 #[.pointer (some ⟨C, 0, none⟩)] w (DrewV (fun xs => xs.length ≤ 7) B w C) := by
  have HC := Lib.hid hc
  have hlt := hc.lt
  clear hc
  go_enter Tryz.func67, Tryz.ntmps67
  go_wp2_with fail
  refine (l1Below_e B _ C 4 (by omega) HC.out).mono ?_
  rintro e w1 ⟨x, rfl, ⟨x0, x1⟩, ht1⟩
  obtain ⟨n, rfl⟩ : ∃ n : Nat, x = n := ⟨x.toNat, by omega⟩
  have hs1 := ht1.size
  go_wp2_with fail
  refine (l3Vec_e B _ C (1 + n) (by omega) ht1.cu).mono ?_
  rintro e w2 ⟨v, xs, rfl, hxl, hrow, ht2⟩
  have hr2 := hrow.le hs1
  have ht12 := ht1.trans ht2
  have hs2 := ht2.size
  obtain ⟨g, cp, rfl, hg1, hg2⟩ := hr2.first (by omega)
  have HR := Lib.hid hr2
  have HT := Lib.hid ht12
  have HL := Lib.hid hxl
  clear ht1 ht2 hrow hr2 ht12 hxl
  go_wp2_with fail
  refine (l1Below_e B _ C 16 (by omega) HT.out.cu).mono ?_
  rintro e w3 ⟨k, rfl, ⟨k0, k1⟩, ht3⟩
  have hr3 := HR.out.turned hlt ht3
  have ht3' := HT.out.trans ht3
  have hs3 := ht3.size
  have HR3 := Lib.hid hr3
  have HT3 := Lib.hid ht3'
  clear ht3 hr3 ht3'
  by_cases e0 : k = 0
  · subst e0
    go_wp2_with fail
    refine (l2Raw_e B _ C HT3.out.cu).mono ?_
    rintro e w4 ⟨y, rfl, _, ht4⟩
    have hr4 := HR3.out.turned hlt ht4
    have ht4' := HT3.out.trans ht4
    have hfr := World.ownsRow.frozenAt hr4 0
    obtain ⟨u, hu⟩ : ∃ u, w4.cell? ⟨g, 0, none⟩ = some u := by
      rw [World.ownsRow.cellAt hr4 0 (by have := HL.out; omega)]
      exact ⟨_, List.getElem?_eq_getElem (by rw [icells_length]; have := HL.out; omega)⟩
    have hs4 := ht4'.size
    have hst := World.ownsRow.stored hr4 0 (.int .i64 y)
    have HS1 := Lib.hid hst.1
    have HS2 := Lib.hid (ht4'.store hlt hst.2 hg1)
    have hix : (0 : Int) < (xs.length : Int) := by have := HL.out; omega
    clear ht4 hr4 ht4' hst
    go_wp2_with fail
    go_ret
    have h1 := HS1.out
    rw [icells_set] at h1
    refine ⟨_, xs.set 0 y, rfl, by show (xs.set 0 y).length ≤ 7; rw [List.length_set, HL.out]; omega, ?_, HS2.out⟩
    unfold Row
    rw [List.length_set]
    exact h1
  · have t0 : (k == 0) = false := by simpa using e0
    by_cases e1 : k = 1
    · subst e1
      go_wp2_with fail
      refine (l1PickInt_e B _ C w3.heap.size 3 [0, 6, 7] (fun x => 0 ≤ x ∧ x ≤ 7) rfl (by omega) (by omega) (by decide) (HT3.out.cu.alloc _) (by omega) (fun j hj => ints_cells w3 _ _ j hj)).mono ?_
      rintro e w4 ⟨y, rfl, ⟨y0, y1⟩, ht4⟩
      obtain ⟨m, rfl⟩ : ∃ m : Nat, y = m := ⟨y.toNat, by omega⟩
      have ht4' := (HT3.out.alloc _).trans ht4
      have hs4 := ht4'.size
      have HT4 := Lib.hid ht4'
      clear ht4 ht4'
      go_wp2_with fail
      refine (l3Vec_e B _ C m (by omega) HT4.out.cu).mono ?_
      rintro e w5 ⟨v, zs, rfl, hzl, hrow, ht5⟩
      go_wp2_with fail
      go_ret
      exact ⟨v, zs, rfl, by omega, hrow.le hs4, HT4.out.trans ht5⟩
    · have t1 : (k == 1) = false := by simpa using e1
      go_wp2_with fail
      go_ret
      exact ⟨_, xs, rfl, by show xs.length ≤ 7; rw [HL.out]; omega, HR3.out, HT3.out⟩

/-- Two rows. -/
def DrewVV (B : Nat) (w : World) (C : Nat) (e : Ending) (w' : World) : Prop := ∃ v xs u ys, e = .returned (.tuple #[v, u]) ∧ (xs.length ≤ 7 ∧ ys.length ≤ 7) ∧ Row w.heap.size w' v xs ∧ Row w.heap.size w' u ys ∧ Turned B w w' C

end Go.Proofs.YtpnifgpmleaohaaGreatDoor

end

/-! YtpnifgpmleaohaaGreatDoorLossS -/
section

namespace Go.Proofs.YtpnifgpmleaohaaGreatDoor
open Go.RowKit
set_option linter.unusedVariables false

theorem tdiv_two {q : Int} (h0 : 0 ≤ q) (h1 : q ≤ 2147483647) : wrap64 (q.tdiv 2) = q / 2 ∧ q.tdiv 2 = q / 2 := by
  have e : q.tdiv 2 = q / 2 := Int.tdiv_eq_ediv_of_nonneg h0
  exact ⟨by rw [e, IntWalk.wrap64_in _ (by omega)], e⟩
set_option maxRecDepth 100000 in
theorem specLossOf_any (w : World) (a1 : Option Addr) (n1 c1 : Nat) (xs : List Int) (a2 : Option Addr) (n2 c2 : Nat) (ys : List Int) (h1 : IntsIn w.heap.size w a1 n1 xs) (h2 : IntsIn w.heap.size w a2 n2 ys) :
    Calls Tryz.prog 108 #[.slice a1 n1 c1, .slice a2 n2 c2] w (NumB w (lossN xs ys) (lossB xs ys)) := by
  have H1 := Lib.hid (specVecSub_any w a1 n1 c1 xs a2 n2 c2 ys h1 h2)
  clear h1 h2
  have h6 := rowP_length subN xs ys
  obtain ⟨D, hD⟩ : ∃ D, rowP subN xs ys = D := ⟨_, rfl⟩
  obtain ⟨n, hn⟩ : ∃ n, D.length = n := ⟨_, rfl⟩
  obtain ⟨q, hq⟩ : ∃ q, dotN D D = q := ⟨_, rfl⟩
  obtain ⟨o, ho⟩ : ∃ o, dotB D D = o := ⟨_, rfl⟩
  obtain ⟨f, hf⟩ : ∃ f, flagP subB xs ys = f := ⟨_, rfl⟩
  have hq0 : 0 ≤ q := by rw [← hq]; exact dot_nonneg D
  have hq1 : q ≤ 2147483647 := by rw [← hq]; exact (dotN_range D D).2
  have ht := tdiv_two hq0 hq1
  have HV := fun (w : World) (a : Option Addr) (c : Nat) (h : IntsIn w.heap.size w a n D) => specVecDot_any w a n c D a n c D h h
  unfold lossN lossB
  rw [hD] at H1 h6 ⊢
  rw [hn] at h6
  rw [hf] at H1
  simp only [hq, ho] at HV
  rw [hq, ho, hf]
  obtain ⟨Q, hQ⟩ : ∃ Q, q / 2 = Q := ⟨_, rfl⟩
  rw [hQ] at ht ⊢
  obtain ⟨t1, t2⟩ := ht
  have t3 : wrap64 Q = Q := by rw [t2] at t1; exact t1
  have HN := Lib.hid hn
  replace HV := Lib.hid HV
  clear hD hn hq ho hf hq0 hq1 hQ
  cases f
  · go_enter Tryz.func108, Tryz.ntmps108
    go_wp2_with fail
    refine H1.out.mono ?_
    rintro e w1 ⟨v, rfl, hr, hb⟩
    obtain ⟨a, c, rfl, hi⟩ := hr.form' HN (by omega)
    have HI := Lib.hid hi
    have HB := Lib.hid hb
    clear hr hi hb
    go_wp2_with fail
    refine (HV.out w1 a c HI.out).mono ?_
    rintro e w2 ⟨rfl, hb2⟩
    have HB2 := Lib.hid (HB.out.trans (hb2.mono HB.out.size))
    clear hb2
    go_wp2_with fail
    go_ret2
    exact ⟨by simp [t3], HB2.out⟩
  · go_enter Tryz.func108, Tryz.ntmps108
    go_wp2_with fail
    refine H1.out.mono ?_
    rintro e w1 ⟨v, rfl, hr, hb⟩
    obtain ⟨a, c, rfl, hi⟩ := hr.form' HN (by omega)
    have HI := Lib.hid hi
    have HB := Lib.hid hb
    clear hr hi hb
    go_wp2_with fail
    refine (HV.out w1 a c HI.out).mono ?_
    rintro e w2 ⟨rfl, hb2⟩
    have HB2 := Lib.hid (HB.out.trans (hb2.mono HB.out.size))
    clear hb2
    go_wp2_with fail
    go_ret2
    exact ⟨by simp [t3], HB2.out⟩
end Go.Proofs.YtpnifgpmleaohaaGreatDoor

end

/-! YtpnifgpmleaohaaGreatDoorSeqG -/
section

namespace Go.Proofs.YtpnifgpmleaohaaGreatDoor
open Go.RowKit Go.Sort
set_option linter.unusedVariables false

theorem batch_one {m : List dOp} {p : dPair} (h : batchOkB m [p] = true) : modelOkB m = true ∧ 1 ≤ p.1.length ∧ p.1.length ≤ 6 ∧ p.2.length ≤ 6 := by
  unfold batchOkB pairOkB at h
  simp only [Bool.and_eq_true, List.all_cons, List.all_nil, and_true] at h
  have h1 := h.2.1.1.1
  have h2 := h.2.1.1.2
  unfold vecOkB at h1 h2
  simp only [Bool.and_eq_true, decide_eq_true_eq] at h1 h2
  exact ⟨h.1.1, h1.1.1, h1.1.2, h2.1.2⟩
set_option maxRecDepth 100000 in
set_option maxHeartbeats 6400000 in
theorem specMicroGrads_o (w : World) (es : List Value) (m : dModel) (h : shModel.reads (Under w.heap.size) w es m) (hb : shModel.bulk m ≤ 1048576) (q : List Value) (p : dPair) (hq : shPair.reads (Under w.heap.size) w q p) (hb' : shPair.bulk p ≤ 1048576) :
    Calls Tryz.prog 38 #[.agg es.toArray, .agg q.toArray] w fun e w' => ∃ es', e = .returned (.agg es'.toArray) ∧ shGrads.reads (From w.heap.size w'.heap.size) w' es' (microG m p) ∧ Below w.heap.size w w' := by
  obtain ⟨a, n, c, rfl, hc1, hc2, hl⟩ := shModel_reads.1 h
  obtain ⟨ax, nx, cx, at', nt, ct, rfl, ⟨gx, lx, mx⟩, ⟨gt, lt', mt⟩⟩ := shPair_reads.1 hq
  have hlen := hl.1
  rw [shPair_bulk, bulk_ints, bulk_ints] at hb'
  have hal3 : Below w.heap.size w (((w.alloc (.cells #[.slice a n c] 50 (0, 0))).alloc (.cells #[.slice ax nx cx, .slice at' nt ct] 66 (0, 0))).alloc (.cells #[.slice none 0 0, .int .i64 0, .bool false] 30 (0, 0))) := (((Below.refl _ _).alloc (Nat.le_refl _) _).alloc (by simp) _).alloc (by simp; omega) _
  have hA : (((w.alloc (.cells #[.slice a n c] 50 (0, 0))).alloc (.cells #[.slice ax nx cx, .slice at' nt ct] 66 (0, 0))).alloc (.cells #[.slice none 0 0, .int .i64 0, .bool false] 30 (0, 0))).heap[w.heap.size]? = some (.cells #[.slice a n c] 50 (0, 0)) := by
    rw [Below.heap_alloc _ _ _ (by simp; try omega), Below.heap_alloc _ _ _ (by simp)]
    exact heap_alloc_new w _
  have hB : (((w.alloc (.cells #[.slice a n c] 50 (0, 0))).alloc (.cells #[.slice ax nx cx, .slice at' nt ct] 66 (0, 0))).alloc (.cells #[.slice none 0 0, .int .i64 0, .bool false] 30 (0, 0))).heap[w.heap.size + 1]? = some (.cells #[.slice ax nx cx, .slice at' nt ct] 66 (0, 0)) := by
    rw [Below.heap_alloc _ _ _ (by simp)]
    have := heap_alloc_new (w.alloc (.cells #[.slice a n c] 50 (0, 0))) (.cells #[.slice ax nx cx, .slice at' nt ct] 66 (0, 0))
    simpa using this
  have hZ : (((w.alloc (.cells #[.slice a n c] 50 (0, 0))).alloc (.cells #[.slice ax nx cx, .slice at' nt ct] 66 (0, 0))).alloc (.cells #[.slice none 0 0, .int .i64 0, .bool false] 30 (0, 0))).heap[w.heap.size + 1 + 1]? = some (.cells #[.slice none 0 0, .int .i64 0, .bool false] 30 (0, 0)) := by
    have := heap_alloc_new ((w.alloc (.cells #[.slice a n c] 50 (0, 0))).alloc (.cells #[.slice ax nx cx, .slice at' nt ct] 66 (0, 0))) (.cells #[.slice none 0 0, .int .i64 0, .bool false] 30 (0, 0))
    simpa using this
  have hsz3 : (((w.alloc (.cells #[.slice a n c] 50 (0, 0))).alloc (.cells #[.slice ax nx cx, .slice at' nt ct] 66 (0, 0))).alloc (.cells #[.slice none 0 0, .int .i64 0, .bool false] 30 (0, 0))).heap.size = w.heap.size + 3 := by simp
  have HL := Lib.hid hl
  have HX := Lib.hid (mx.ints (by have := mx.1; omega))
  have HT := Lib.hid (mt.ints (by have := mt.1; omega))
  have hxl := mx.1
  have htl := mt.1
  have HBM := Lib.hid hb
  have HA := Lib.hid hA
  have HB := Lib.hid hB
  have HZ := Lib.hid hZ
  have H3 := Lib.hid hal3
  obtain ⟨k, hk⟩ : ∃ k, batchOkB m [p] = k := ⟨_, rfl⟩
  have HK := Lib.hid hk
  have HMX := Lib.hid mx
  have HMT := Lib.hid mt
  go_enter Tryz.func38, Tryz.ntmps38
  clear h hq hl hb hA hB hZ hal3 hk mx mt
  go_wp2_with fail
  generalize hw3 : ((w.alloc (.cells #[.slice a n c] 50 (0, 0))).alloc (.cells #[.slice ax nx cx, .slice at' nt ct] 66 (0, 0))).alloc (.cells #[.slice none 0 0, .int .i64 0, .bool false] 30 (0, 0)) = w3 at HA HB HZ H3 hsz3 ⊢
  clear hw3
  have hp4 : Below w3.heap.size w3 (w3.alloc (.cells #[.slice ax nx cx, .slice at' nt ct] 66 (0, 0))) := (Below.refl _ _).alloc (Nat.le_refl _) _
  have hbk : w3.heap.size + 1 = (w3.alloc (.cells #[.slice ax nx cx, .slice at' nt ct] 66 (0, 0))).heap.size := by simp
  have hnew := heap_alloc_new w3 (.cells #[.slice ax nx cx, .slice at' nt ct] 66 (0, 0))
  rw [hsz3] at hnew
  have hLP : ListAt shPair (Under (w3.alloc (.cells #[.slice ax nx cx, .slice at' nt ct] 66 (0, 0))).heap.size) (w3.alloc (.cells #[.slice ax nx cx, .slice at' nt ct] 66 (0, 0))) (some ⟨w.heap.size + 3, 0, none⟩) 1 [p] := by
    refine ⟨rfl, fun j x hx => ?_⟩
    cases j with
    | zero =>
      simp at hx
      subst hx
      refine ⟨w.heap.size + 3, 0, [.slice ax nx cx, .slice at' nt ct], rfl, by show _ < _; omega, fun i v hv => ?_, shPair_reads.2 ⟨_, _, _, _, _, _, rfl, ⟨gx, lx, ?_⟩, ⟨gt, lt', ?_⟩⟩⟩
      · rw [cell_of_row _ _ _ _ _ _ hnew]
        simpa using hv
      · exact ((HMX.out.below H3.out (Nat.le_refl _)).below (hp4.mono (by omega)) (Nat.le_refl _)).le (by omega)
      · exact ((HMT.out.below H3.out (Nat.le_refl _)).below (hp4.mono (by omega)) (Nat.le_refl _)).le (by omega)
    | succ j => simp at hx
  have h4 : Below w.heap.size w (w3.alloc (.cells #[.slice ax nx cx, .slice at' nt ct] 66 (0, 0))) := H3.out.trans (hp4.mono H3.out.size)
  have hC := specBatchOk_c (w3.alloc (.cells #[.slice ax nx cx, .slice at' nt ct] 66 (0, 0))) a n c m ((HL.out.below h4 (Nat.le_refl _)).le h4.size) hc1 hc2 HBM.out (some ⟨w.heap.size + 3, 0, none⟩) 1 1 [p] hLP (by
    show 1 + (shPair.bulk p + 0) ≤ 1048577
    rw [shPair_bulk, bulk_ints, bulk_ints]
    omega)
  rw [HK.out] at hC
  refine hC.mono ?_
  rintro e w5 ⟨rfl, hb5⟩
  have h35 : Below w3.heap.size w3 w5 := hp4.trans (hb5.mono hp4.size)
  have h5 := Lib.hid (H3.out.trans (h35.mono H3.out.size))
  have hA5 := (h35.block w.heap.size (by omega)).trans HA.out
  have hB5 := (h35.block (w.heap.size + 1) (by omega)).trans HB.out
  have hZ5 := (h35.block (w.heap.size + 1 + 1) (by omega)).trans HZ.out
  have hs5 : w.heap.size + 3 ≤ w5.heap.size := by have := h35.size; omega
  have HA5 := Lib.hid hA5
  have HB5 := Lib.hid hB5
  have HZ5 := Lib.hid hZ5
  clear hC hLP hp4 hbk hnew h4 hb5 h35 hA5 hB5 hZ5 HA HB HZ hsz3
  have z0 := box1 HA5.out
  have y0 : w5.cell? ⟨w.heap.size + 1, 0, none⟩ = some (.slice ax nx cx) := by rw [cell_of_row _ _ _ _ _ _ HB5.out]; rfl
  have y1 : w5.cell? ⟨w.heap.size + 1, 1, none⟩ = some (.slice at' nt ct) := by rw [cell_of_row _ _ _ _ _ _ HB5.out]; rfl
  obtain ⟨⟨d0, d1, d2⟩, f0, f1, f2⟩ := cellsG HZ5.out
  cases k
  · go_wp2_with fail
    refine bodyPost_ret (results_cell_row rfl _ _ (w.heap.size + 1 + 1) 30 #[.slice none 0 0, .int .i64 0, .bool false] (0, 0) _ rfl (store3 HZ5.out _ _ _) Tryz.underlying30 rfl (by kernel_rfl)) rfl ?_
    refine ⟨[.slice none 0 0, .int .i64 0, .bool false], rfl, ?_, ((h5.out.setCell (p := ⟨w.heap.size + 1 + 1, 0, none⟩) (by show _ ≤ w.heap.size + 1 + 1; omega) _).setCell (p := ⟨w.heap.size + 1 + 1, 1, none⟩) (by show _ ≤ w.heap.size + 1 + 1; omega) _).setCell (p := ⟨w.heap.size + 1 + 1, 2, none⟩) (by show _ ≤ w.heap.size + 1 + 1; omega) _⟩
    have hmg : microG m p = dNone := by unfold microG; rw [HK.out]; rfl
    rw [hmg]
    exact shGrads_reads.2 ⟨none, 0, 0, rfl, Nat.le_refl _, by omega, rfl, fun j x hx => by simp [dNone] at hx⟩
  · obtain ⟨hm, hx1, hx6, ht6⟩ := batch_one HK.out
    obtain ⟨-, hm1, hm8⟩ := modelOk_has hm
    rw [hlen] at hm1 hm8
    have hC := specL7Inputs_any w5 a n c m ((HL.out.below h5.out (Nat.le_refl _)).le h5.out.size) HBM.out ax nx cx p.1 ((HX.out.below h5.out (Nat.le_refl _)).le h5.out.size) (by omega) (by omega)
    have HC := Lib.hid hC
    clear hC
    go_wp2_with fail
    refine HC.out.mono ?_
    rintro e w6 ⟨v, rfl, hli, hb6⟩
    have hl6 := ListL.list hli (by decide)
    obtain ⟨ai, ci, rfl, hci1, hci2, hown⟩ := hl6
    rw [listK_length] at hci1 hown
    have hil := listK_length (inK m p.1) (n + 1)
    rw [hil] at hli ⊢
    obtain ⟨gi, ay, ny, cy, rfl, hj1, hg1, hg2, cgi, iy⟩ := hli.at n (inK m p.1 n) (listK_get _ _ _ (by omega)) (by have := (show (inK m p.1 n).length ≤ 6 from by cases n with | zero => omega | succ n => exact fwOp_length _ _); omega)
    have hs6 := hb6.size
    have h6 := Lib.hid (h5.out.trans (hb6.mono h5.out.size))
    have hA6 := (hb6.block w.heap.size (by omega)).trans HA5.out
    have hB6 := (hb6.block (w.heap.size + 1) (by omega)).trans HB5.out
    have hZ6 := (hb6.block (w.heap.size + 1 + 1) (by omega)).trans HZ5.out
    have HA6 := Lib.hid hA6
    have HB6 := Lib.hid hB6
    have HZ6 := Lib.hid hZ6
    have HIN := Lib.hid (hown.listAt (I := Under w6.heap.size) (fun b o f => f.2) (by decide))
    have HIY := Lib.hid iy
    obtain ⟨Y, hY⟩ : ∃ Y, inK m p.1 n = Y := ⟨_, rfl⟩
    have hYl : Y.length ≤ 6 := by rw [← hY]; cases n with | zero => omega | succ n => exact fwOp_length _ _
    have HY := Lib.hid hY
    rw [hY] at iy
    have hCL := Lib.hid fun (w7 : World) (hb7 : Below w6.heap.size w6 w7) => specLossOf_any w7 ay ny cy Y at' nt ct p.2 ((iy.below hb7 (Nat.le_refl _)).le hb7.size) ((HT.out.below (h6.out.trans (hb7.mono h6.out.size)) (Nat.le_refl _)).le (Nat.le_trans h6.out.size hb7.size))
    have hCV := Lib.hid fun (w7 : World) (hb7 : Below w6.heap.size w6 w7) => specVecSub_any w7 ay ny cy Y at' nt ct p.2 ((iy.below hb7 (Nat.le_refl _)).le hb7.size) ((HT.out.below (h6.out.trans (hb7.mono h6.out.size)) (Nat.le_refl _)).le (Nat.le_trans h6.out.size hb7.size))
    obtain ⟨LN, hLN⟩ : ∃ L, lossN Y p.2 = L := ⟨_, rfl⟩
    obtain ⟨LB, hLB⟩ : ∃ L, lossB Y p.2 = L := ⟨_, rfl⟩
    obtain ⟨DD, hDD⟩ : ∃ L, rowP subN Y p.2 = L := ⟨_, rfl⟩
    obtain ⟨DB, hDB⟩ : ∃ L, flagP subB Y p.2 = L := ⟨_, rfl⟩
    obtain ⟨IB, hIB⟩ : ∃ L, inKB m p.1 n = L := ⟨_, rfl⟩
    obtain ⟨BB, hBB⟩ : ∃ L, backKB m p.1 DD n = L := ⟨_, rfl⟩
    have hmg : microG m p = (gradsN m p.1 DD, LN, IB || LB || DB || BB) := by
      unfold microG
      rw [HK.out, if_pos rfl, hlen, hY, hLN, hLB, hDD, hDB, hIB, hBB]
    have HMG := Lib.hid hmg
    have hdl : DD.length ≤ 6 := by rw [← hDD]; have := rowP_length subN Y p.2; omega
    rw [Hid] at hCL hCV
    simp only [hLN, hLB] at hCL
    simp only [hDD, hDB] at hCV
    rw [hIB]
    have HCL := Lib.hid hCL
    have HCV := Lib.hid hCV
    have hin : ∀ j, j < n → (listK (inK m p.1) (n + 1))[j]? = some (inK m p.1 j) := fun j hj => listK_get _ _ _ (by omega)
    have HJ := Lib.hid hin
    have HBB := Lib.hid hBB
    clear z0 y0 y1 d0 d1 d2 f0 f1 f2 hCL hCV hmg hA6 hB6 hZ6 iy hown hli hb6 hY hLN hLB hDD hDB hIB hBB hin HC
    have z0 := box1 HA6.out
    have y0 : w6.cell? ⟨w.heap.size + 1, 0, none⟩ = some (.slice ax nx cx) := by rw [cell_of_row _ _ _ _ _ _ HB6.out]; rfl
    have y1 : w6.cell? ⟨w.heap.size + 1, 1, none⟩ = some (.slice at' nt ct) := by rw [cell_of_row _ _ _ _ _ _ HB6.out]; rfl
    have hix : wrap64 (((n + 1 : Nat) : Int) - 1) = (n : Int) := by rw [IntWalk.wrap64_in _ (by omega)]; omega
    have hix2 : wrap64 ((n : Int) + 1 - 1) = (n : Int) := by rw [IntWalk.wrap64_in _ (by omega)]; omega
    have hix3 : (n : Int) < (n : Int) + 1 := by omega
    go_wp2_with fail
    refine (HCL.out w6 (Below.refl _ _)).mono ?_
    rintro e w7 ⟨rfl, hb7⟩
    have hs7 := hb7.size
    have H7 := Lib.hid hb7
    have z7 := box1 ((hb7.block w.heap.size (by omega)).trans HA6.out)
    have x7 : w7.cell? ⟨w.heap.size + 1, 0, none⟩ = some (.slice ax nx cx) := by rw [cell_of_row _ _ _ _ _ _ ((hb7.block (w.heap.size + 1) (by omega)).trans HB6.out)]; rfl
    have y7 : w7.cell? ⟨w.heap.size + 1, 1, none⟩ = some (.slice at' nt ct) := by rw [cell_of_row _ _ _ _ _ _ ((hb7.block (w.heap.size + 1) (by omega)).trans HB6.out)]; rfl
    clear z0 y0 y1 hb7
    go_wp2_with fail
    refine (HCV.out w7 H7.out).mono ?_
    rintro e w8 ⟨vd, rfl, hrd, hb8⟩
    have hb68 := H7.out.trans (hb8.mono H7.out.size)
    have hs8 := hb68.size
    obtain ⟨a8, c8, rfl, hi8⟩ := hrd.form
    obtain ⟨n8, hn8⟩ : ∃ q, DD.length = q := ⟨_, rfl⟩
    have h8 := h6.out.trans (hb68.mono h6.out.size)
    have hC := specL7Back_any w8 a n c m ((HL.out.below h8 (Nat.le_refl _)).le h8.size) HBM.out (some ⟨gi, 0, none⟩) (n + 1) ci (listK (inK m p.1) (n + 1)) ((HIN.out.below hb68 (Nat.le_refl _)).le hb68.size) p.1 HJ.out (by omega) a8 n8 c8 DD (by have := hi8 (by omega); rwa [hn8] at this) hm1 hm8
    rw [HBB.out] at hC
    have HC := Lib.hid hC
    have H8 := Lib.hid h8
    have HZ8 := Lib.hid ((hb68.block (w.heap.size + 1 + 1) (by omega)).trans HZ6.out)
    have z8 := box1 ((hb68.block w.heap.size (by omega)).trans HA6.out)
    rw [hn8]
    clear z7 x7 y7 hb8 hb68 h8 hrd hi8 hC hn8
    go_wp2_with fail
    refine HC.out.mono ?_
    rintro e w9 ⟨v, u, rfl, hli, hb9⟩
    obtain ⟨av, cv, rfl, hcv1, hcv2⟩ := hli.form
    have hgl : (gradsN m p.1 DD).length = n := by unfold gradsN; rw [listK_length, hlen]
    rw [hgl] at hli hcv1 ⊢
    have hs9 := hb9.size
    have h9 := Lib.hid (H8.out.trans (hb9.mono H8.out.size))
    have HZ9 := Lib.hid ((hb9.block (w.heap.size + 1 + 1) (by omega)).trans HZ8.out)
    obtain ⟨⟨d0, d1, d2⟩, f0, f1, f2⟩ := cellsG HZ9.out
    have HLI := Lib.hid hli
    have hend : ∀ ob : Bool, (IB || LB || DB || BB) = ob → shGrads.reads (From w.heap.size (((w9.setCell ⟨w.heap.size + 1 + 1, 0, none⟩ (.slice av n cv)).setCell ⟨w.heap.size + 1 + 1, 1, none⟩ (.int .i64 LN)).setCell ⟨w.heap.size + 1 + 1, 2, none⟩ (.bool ob)).heap.size) (((w9.setCell ⟨w.heap.size + 1 + 1, 0, none⟩ (.slice av n cv)).setCell ⟨w.heap.size + 1 + 1, 1, none⟩ (.int .i64 LN)).setCell ⟨w.heap.size + 1 + 1, 2, none⟩ (.bool ob)) [.slice av n cv, .int .i64 LN, .bool ob] (microG m p) := fun ob hob => by
      have hfin := ((HLI.out.stored (w.heap.size + 1 + 1) 0 (.slice av n cv) (by omega)).stored (w.heap.size + 1 + 1) 1 (.int .i64 LN) (by omega)).stored (w.heap.size + 1 + 1) 2 (.bool ob) (by omega)
      obtain ⟨a', cap, e1, e2, e3, e4⟩ := hfin.list (by decide)
      rw [hgl] at e1 e2 e4
      cases e1
      rw [HMG.out, hob]
      exact shGrads_reads.2 ⟨_, _, _, rfl, e2, e3, e4.listAt (fun b o f => ⟨by have := f.1; omega, by have := f.2; simpa using this⟩) (by decide)⟩
    have HEND := Lib.hid hend
    clear z8 hli hb9 hend hgl HC HCL HCV HIN HIY HJ
    cases IB
    · cases LB
      · cases DB
        · go_wp2_with fail
          refine bodyPost_ret (results_cell_row rfl _ _ (w.heap.size + 1 + 1) 30 #[.slice av n cv, .int .i64 LN, .bool BB] (0, 0) _ rfl (store3 HZ9.out _ _ _) Tryz.underlying30 rfl (by kernel_rfl)) rfl ?_
          exact ⟨[.slice av n cv, .int .i64 LN, .bool BB], rfl, HEND.out BB rfl, ((h9.out.setCell (p := ⟨w.heap.size + 1 + 1, 0, none⟩) (by show _ ≤ w.heap.size + 1 + 1; omega) _).setCell (p := ⟨w.heap.size + 1 + 1, 1, none⟩) (by show _ ≤ w.heap.size + 1 + 1; omega) _).setCell (p := ⟨w.heap.size + 1 + 1, 2, none⟩) (by show _ ≤ w.heap.size + 1 + 1; omega) _⟩
        · go_wp2_with fail
          refine bodyPost_ret (results_cell_row rfl _ _ (w.heap.size + 1 + 1) 30 #[.slice av n cv, .int .i64 LN, .bool true] (0, 0) _ rfl (store3 HZ9.out _ _ _) Tryz.underlying30 rfl (by kernel_rfl)) rfl ?_
          exact ⟨[.slice av n cv, .int .i64 LN, .bool true], rfl, HEND.out true rfl, ((h9.out.setCell (p := ⟨w.heap.size + 1 + 1, 0, none⟩) (by show _ ≤ w.heap.size + 1 + 1; omega) _).setCell (p := ⟨w.heap.size + 1 + 1, 1, none⟩) (by show _ ≤ w.heap.size + 1 + 1; omega) _).setCell (p := ⟨w.heap.size + 1 + 1, 2, none⟩) (by show _ ≤ w.heap.size + 1 + 1; omega) _⟩
      · go_wp2_with fail
        refine bodyPost_ret (results_cell_row rfl _ _ (w.heap.size + 1 + 1) 30 #[.slice av n cv, .int .i64 LN, .bool true] (0, 0) _ rfl (store3 HZ9.out _ _ _) Tryz.underlying30 rfl (by kernel_rfl)) rfl ?_
        exact ⟨[.slice av n cv, .int .i64 LN, .bool true], rfl, HEND.out true rfl, ((h9.out.setCell (p := ⟨w.heap.size + 1 + 1, 0, none⟩) (by show _ ≤ w.heap.size + 1 + 1; omega) _).setCell (p := ⟨w.heap.size + 1 + 1, 1, none⟩) (by show _ ≤ w.heap.size + 1 + 1; omega) _).setCell (p := ⟨w.heap.size + 1 + 1, 2, none⟩) (by show _ ≤ w.heap.size + 1 + 1; omega) _⟩
    · go_wp2_with fail
      refine bodyPost_ret (results_cell_row rfl _ _ (w.heap.size + 1 + 1) 30 #[.slice av n cv, .int .i64 LN, .bool true] (0, 0) _ rfl (store3 HZ9.out _ _ _) Tryz.underlying30 rfl (by kernel_rfl)) rfl ?_
      exact ⟨[.slice av n cv, .int .i64 LN, .bool true], rfl, HEND.out true rfl, ((h9.out.setCell (p := ⟨w.heap.size + 1 + 1, 0, none⟩) (by show _ ≤ w.heap.size + 1 + 1; omega) _).setCell (p := ⟨w.heap.size + 1 + 1, 1, none⟩) (by show _ ≤ w.heap.size + 1 + 1; omega) _).setCell (p := ⟨w.heap.size + 1 + 1, 2, none⟩) (by show _ ≤ w.heap.size + 1 + 1; omega) _⟩
end Go.Proofs.YtpnifgpmleaohaaGreatDoor

end
