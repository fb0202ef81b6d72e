import Derived.Test.YtpnifgpmleaohaaGreatDoorJoin5
import Derived.Shelf.Abstract
import Derived.Laws.EntriesVeiled
import Derived.OneCell
/-! YtpnifgpmleaohaaGreatDoorThrough -/
section

namespace Go.Proofs.YtpnifgpmleaohaaGreatDoor
open Go.RowKit
set_option linter.unusedVariables false

/-- A number behind a row of the call's own. -/
theorem Row.put {base : Nat} {w w' : World} {v v' : Value} {zs : List Int} {x : Int} (hrow : Row base w v zs) (hb : base ≤ w.heap.size) (o : Obj) (hown : w'.ownsRow base 3 1 v' (zs.length + 1) (icells zs ++ icells [x])) (hg : (w.alloc o).grownBy w' v.ownBlock) :
    Row base w' v' (zs ++ [x]) ∧ Below base w w' := by
  refine ⟨?_, ((Below.refl base w).alloc hb o).grown hg (by simp; omega) (fun k hk => (hrow.lt k hk).1)⟩
  unfold Row
  rw [icells_append]
  simpa using hown
theorem cell_num_put (w : World) (e : TypeId) (x : Int) : ∀ j u, (icells [x])[j]? = some u → (w.alloc (.cells #[.int .i64 x] e)).cell? ((⟨w.heap.size, 0, none⟩ : Addr).add j) = some u := by
  intro j u hu
  rw [Addr.add_lit, Nat.zero_add, cell_of_row _ _ _ _ _ _ (heap_alloc_new w _)]
  simpa [icells] using hu
theorem icells_one (l : List Int) : ∀ u ∈ icells l, u.oneCell' = true := by
  intro u hu
  obtain ⟨_, _, rfl⟩ := List.mem_map.1 hu
  rfl

set_option maxRecDepth 100000 in
theorem throughRow_no (w : World) (a1 : Option Addr) (n1 c1 : Nat) (xs : List Int) (a2 : Option Addr) (n2 c2 : Nat) (ys : List Int) (f : Value) (h1 : IntsIn w.heap.size w a1 n1 xs) (h2 : IntsIn w.heap.size w a2 n2 ys) (hp : pairB xs ys = false) :
    Calls Tryz.prog 212 #[.slice a1 n1 c1, .slice a2 n2 c2, .slice none 0 0, f] w fun e w' => e = .returned (.tuple #[.slice none 0 0, .bool false]) ∧ w = w' := by
  have S1 := implVecOk_any w a1 n1 c1 xs h1
  have S2 := implVecOk_any w a2 n2 c2 ys h2
  unfold pairB at hp
  rw [h1.len, h2.len] at hp
  obtain ⟨p, hp'⟩ : ∃ p, vecOkB xs = p := ⟨_, rfl⟩
  obtain ⟨q, hq⟩ : ∃ q, vecOkB ys = q := ⟨_, rfl⟩
  rw [hp'] at S1 hp
  rw [hq] at S2 hp
  have H1 := Lib.hid S1
  have H2 := Lib.hid S2
  have HP := Lib.hid hp
  clear hp' hq S1 S2 h1 h2 hp
  cases p
  · go_enter Tryz.func212, Tryz.ntmps212
    go_wp2_with fail
    refine H1.out.mono ?_
    rintro e w' ⟨rfl, rfl⟩
    go_wp2_with fail
    go_ret2
    exact ⟨rfl, rfl⟩
  · cases q
    · go_enter Tryz.func212, Tryz.ntmps212
      go_wp2_with fail
      refine H1.out.mono ?_
      rintro e w' ⟨rfl, rfl⟩
      go_wp2_with fail
      refine H2.out.mono ?_
      rintro e w' ⟨rfl, rfl⟩
      go_wp2_with fail
      go_ret2
      exact ⟨rfl, rfl⟩
    · have hne : ((n1 : Int) == (n2 : Int)) = false := by
        have := HP.out
        simp only [Bool.and_self, Bool.true_and, decide_eq_false_iff_not] at this
        rw [beq_eq_false_iff_ne]
        omega
      go_enter Tryz.func212, Tryz.ntmps212
      go_wp2_with fail
      refine H1.out.mono ?_
      rintro e w' ⟨rfl, rfl⟩
      go_wp2_with fail
      refine H2.out.mono ?_
      rintro e w' ⟨rfl, rfl⟩
      go_wp2_with fail
      go_ret2
      exact ⟨rfl, rfl⟩

set_option maxRecDepth 100000 in
theorem throughRow_yes (w : World) (a1 : Option Addr) (n c1 : Nat) (xs : List Int) (a2 : Option Addr) (c2 : Nat) (ys : List Int) (g : Nat) (lb : Array Value) (F : Int → Int → Int) (G : Int → Int → Bool)
    (eg : ∀ args w, (callFunc g args).run Tryz.prog w = .ok (.enter g args) w)
    (hstep : ∀ (wr : World) (v : Value) (zs : List Int) (x y : Int), Below w.heap.size w wr → Row w.heap.size wr v zs → zs.length ≤ 6 → Calls Tryz.prog g (#[v, .int .i64 x, .int .i64 y] ++ lb) wr fun e w' => ∃ v', e = .returned (.tuple #[v', .bool (G x y)]) ∧ Row w.heap.size w' v' (zs ++ [F x y]) ∧ Below w.heap.size wr w')
    (h1 : IntsIn w.heap.size w a1 n xs) (h2 : IntsIn w.heap.size w a2 n ys) (hp : vecOkB xs = true) (hq : vecOkB ys = true) :
    Calls Tryz.prog 212 #[.slice a1 n c1, .slice a2 n c2, .slice none 0 0, .func (.func g) #[] lb] w fun e w' =>
      ∃ v, e = .returned (.tuple #[v, .bool (flagK G xs ys n)]) ∧ Row w.heap.size w' v (rowK F xs ys n) ∧ Below w.heap.size w w' := by
  have S1 := implVecOk_any w a1 n c1 xs h1
  have S2 := implVecOk_any w a2 n c2 ys h2
  rw [hp] at S1
  rw [hq] at S2
  have hn6 := (vecOkB_has hp).2.1
  rw [h1.len] at hn6
  have H1 := Lib.hid S1
  have H2 := Lib.hid S2
  have HX := Lib.hid h1
  have HY := Lib.hid h2
  have HS := Lib.hid hstep
  clear hp hq S1 S2 h1 h2 hstep
  go_enter Tryz.func212, Tryz.ntmps212
  go_wp2_with fail
  refine H1.out.mono ?_
  rintro e w' ⟨rfl, rfl⟩
  go_wp2_with fail
  refine H2.out.mono ?_
  rintro e w' ⟨rfl, rfl⟩
  go_wp2_with fail
  go_loopw [11, 12, 35] (fun m o i wr => ∃ k : Nat, k ≤ n ∧ i = .int .i64 k ∧ o = .bool (flagK G xs ys k) ∧ Row w.heap.size wr m (rowK F xs ys k) ∧ Below w.heap.size w wr) (fun _ _ i _ => n - (intOf i).toNat)
  case atStart => exact ⟨0, Nat.zero_le _, rfl, rfl, Row.nil _ _, Below.refl _ _⟩
  case round =>
    obtain ⟨k, hk, rfl, rfl, hrow, hb⟩ := hrel
    have HR := Lib.hid hrow
    have HB := Lib.hid hb
    clear hrow hb
    by_cases hlt : k < n
    · obtain ⟨b, o, rfl, hbB, hcell0⟩ := HX.out.cells k hlt
      obtain ⟨b', o', rfl, hbB', hcell0'⟩ := HY.out.cells k hlt
      obtain ⟨X, hX⟩ : ∃ X, X = xs.getD k 0 := ⟨_, rfl⟩
      obtain ⟨Y, hY⟩ : ∃ Y, Y = ys.getD k 0 := ⟨_, rfl⟩
      rw [← hX] at hcell0
      rw [← hY] at hcell0'
      have hcell := (HB.out.cell (p := ⟨b, o + k, none⟩) hbB).trans hcell0
      have hcell' := (HB.out.cell (p := ⟨b', o' + k, none⟩) hbB').trans hcell0'
      obtain ⟨fl, hfl⟩ : ∃ fl, flagK G xs ys k = fl := ⟨_, rfl⟩
      obtain ⟨go, hgo⟩ : ∃ go, G X Y = go := ⟨_, rfl⟩
      have hT := HS.out wr _ (rowK F xs ys k) X Y HB.out HR.out (by rw [rowK_length]; omega)
      rw [hgo] at hT
      have HT := Lib.hid hT
      have e1 : flagK G xs ys (k + 1) = (fl || go) := by rw [flagK, hfl, ← hX, ← hY, hgo]
      have e2 : rowK F xs ys (k + 1) = rowK F xs ys k ++ [F X Y] := by rw [rowK, ← hX, ← hY]
      have E1 := Lib.hid e1
      have E2 := Lib.hid e2
      rw [hfl]
      clear hX hY hcell0 hcell0' hfl hgo hT e1 e2
      cases fl
      · go_wp2_with fail
        refine HT.out.mono ?_
        rintro e w' ⟨v', rfl, hrow', hb'⟩
        go_wp2_with fail
        go_roundw
        case rel => exact ⟨k + 1, by omega, by go_num, by rw [E1.out]; rfl, by rw [E2.out]; exact hrow', HB.out.trans hb'⟩
        case measure => simp [intOf]; omega
      · go_wp2_with fail
        refine HT.out.mono ?_
        rintro e w' ⟨v', rfl, hrow', hb'⟩
        go_wp2_with fail
        go_roundw
        case rel => exact ⟨k + 1, by omega, by go_num, by rw [E1.out]; rfl, by rw [E2.out]; exact hrow', HB.out.trans hb'⟩
        case measure => simp [intOf]; omega
    · have hkn : k = n := by omega
      subst hkn
      go_wp2_with fail
      go_ret2
      exact ⟨_, rfl, HR.out, HB.out⟩
set_option maxRecDepth 100000 in
theorem throughInt_no (w : World) (a1 : Option Addr) (n1 c1 : Nat) (xs : List Int) (a2 : Option Addr) (n2 c2 : Nat) (ys : List Int) (f : Value) (h1 : IntsIn w.heap.size w a1 n1 xs) (h2 : IntsIn w.heap.size w a2 n2 ys) (hp : pairB xs ys = false) :
    Calls Tryz.prog 209 #[.slice a1 n1 c1, .slice a2 n2 c2, .int .i64 0, f] w fun e w' => e = .returned (.tuple #[.int .i64 0, .bool false]) ∧ w = w' := by
  have S1 := implVecOk_any w a1 n1 c1 xs h1
  have S2 := implVecOk_any w a2 n2 c2 ys h2
  unfold pairB at hp
  rw [h1.len, h2.len] at hp
  obtain ⟨p, hp'⟩ : ∃ p, vecOkB xs = p := ⟨_, rfl⟩
  obtain ⟨q, hq⟩ : ∃ q, vecOkB ys = q := ⟨_, rfl⟩
  rw [hp'] at S1 hp
  rw [hq] at S2 hp
  have H1 := Lib.hid S1
  have H2 := Lib.hid S2
  have HP := Lib.hid hp
  clear hp' hq S1 S2 h1 h2 hp
  cases p
  · go_enter Tryz.func209, Tryz.ntmps209
    go_wp2_with fail
    refine H1.out.mono ?_
    rintro e w' ⟨rfl, rfl⟩
    go_wp2_with fail
    go_ret2
    exact ⟨rfl, rfl⟩
  · cases q
    · go_enter Tryz.func209, Tryz.ntmps209
      go_wp2_with fail
      refine H1.out.mono ?_
      rintro e w' ⟨rfl, rfl⟩
      go_wp2_with fail
      refine H2.out.mono ?_
      rintro e w' ⟨rfl, rfl⟩
      go_wp2_with fail
      go_ret2
      exact ⟨rfl, rfl⟩
    · have hne : ((n1 : Int) == (n2 : Int)) = false := by
        have := HP.out
        simp only [Bool.and_self, Bool.true_and, decide_eq_false_iff_not] at this
        rw [beq_eq_false_iff_ne]
        omega
      go_enter Tryz.func209, Tryz.ntmps209
      go_wp2_with fail
      refine H1.out.mono ?_
      rintro e w' ⟨rfl, rfl⟩
      go_wp2_with fail
      refine H2.out.mono ?_
      rintro e w' ⟨rfl, rfl⟩
      go_wp2_with fail
      go_ret2
      exact ⟨rfl, rfl⟩

set_option maxRecDepth 100000 in
theorem throughInt_yes (w : World) (a1 : Option Addr) (n c1 : Nat) (xs : List Int) (a2 : Option Addr) (c2 : Nat) (ys : List Int) (g : Nat) (lb : Array Value) (F : Int → Int → Int → Int) (G : Int → Int → Int → Bool)
    (eg : ∀ args w, (callFunc g args).run Tryz.prog w = .ok (.enter g args) w)
    (hstep : ∀ (wr : World) (s x y : Int), Below w.heap.size w wr → Calls Tryz.prog g (#[.int .i64 s, .int .i64 x, .int .i64 y] ++ lb) wr fun e w' => e = .returned (.tuple #[.int .i64 (F s x y), .bool (G s x y)]) ∧ Below w.heap.size wr w')
    (h1 : IntsIn w.heap.size w a1 n xs) (h2 : IntsIn w.heap.size w a2 n ys) (hp : vecOkB xs = true) (hq : vecOkB ys = true) :
    Calls Tryz.prog 209 #[.slice a1 n c1, .slice a2 n c2, .int .i64 0, .func (.func g) #[] lb] w fun e w' =>
      e = .returned (.tuple #[.int .i64 (sumK F xs ys n), .bool (sumKB F G xs ys n)]) ∧ Below w.heap.size w w' := by
  have S1 := implVecOk_any w a1 n c1 xs h1
  have S2 := implVecOk_any w a2 n c2 ys h2
  rw [hp] at S1
  rw [hq] at S2
  have hn6 := (vecOkB_has hp).2.1
  rw [h1.len] at hn6
  have H1 := Lib.hid S1
  have H2 := Lib.hid S2
  have HX := Lib.hid h1
  have HY := Lib.hid h2
  have HS := Lib.hid hstep
  clear hp hq S1 S2 h1 h2 hstep
  go_enter Tryz.func209, Tryz.ntmps209
  go_wp2_with fail
  refine H1.out.mono ?_
  rintro e w' ⟨rfl, rfl⟩
  go_wp2_with fail
  refine H2.out.mono ?_
  rintro e w' ⟨rfl, rfl⟩
  go_wp2_with fail
  go_loopw [11, 12, 35] (fun m o i wr => ∃ k : Nat, k ≤ n ∧ i = .int .i64 k ∧ m = .int .i64 (sumK F xs ys k) ∧ o = .bool (sumKB F G xs ys k) ∧ Below w.heap.size w wr) (fun _ _ i _ => n - (intOf i).toNat)
  case atStart => exact ⟨0, Nat.zero_le _, rfl, rfl, rfl, Below.refl _ _⟩
  case round =>
    obtain ⟨k, hk, rfl, rfl, rfl, hb⟩ := hrel
    have HB := Lib.hid hb
    clear hb
    by_cases hlt : k < n
    · obtain ⟨b, o, rfl, hbB, hcell0⟩ := HX.out.cells k hlt
      obtain ⟨b', o', rfl, hbB', hcell0'⟩ := HY.out.cells k hlt
      obtain ⟨X, hX⟩ : ∃ X, X = xs.getD k 0 := ⟨_, rfl⟩
      obtain ⟨Y, hY⟩ : ∃ Y, Y = ys.getD k 0 := ⟨_, rfl⟩
      rw [← hX] at hcell0
      rw [← hY] at hcell0'
      have hcell := (HB.out.cell (p := ⟨b, o + k, none⟩) hbB).trans hcell0
      have hcell' := (HB.out.cell (p := ⟨b', o' + k, none⟩) hbB').trans hcell0'
      obtain ⟨sk, hsk⟩ : ∃ sk, sumK F xs ys k = sk := ⟨_, rfl⟩
      obtain ⟨fl, hfl⟩ : ∃ fl, sumKB F G xs ys k = fl := ⟨_, rfl⟩
      obtain ⟨sn, hsn⟩ : ∃ sn, F sk X Y = sn := ⟨_, rfl⟩
      obtain ⟨go, hgo⟩ : ∃ go, G sk X Y = go := ⟨_, rfl⟩
      have hT := HS.out wr sk X Y HB.out
      rw [hgo, hsn] at hT
      have HT := Lib.hid hT
      have e1 : sumKB F G xs ys (k + 1) = (fl || go) := by rw [sumKB, hfl, hsk, ← hX, ← hY, hgo]
      have e2 : sumK F xs ys (k + 1) = sn := by rw [sumK, hsk, ← hX, ← hY, hsn]
      have E1 := Lib.hid e1
      have E2 := Lib.hid e2
      rw [hfl, hsk]
      clear hX hY hcell0 hcell0' hfl hgo hsk hsn hT e1 e2
      cases fl
      · go_wp2_with fail
        refine HT.out.mono ?_
        rintro e w' ⟨rfl, hb'⟩
        go_wp2_with fail
        go_roundw
        case rel => exact ⟨k + 1, by omega, by go_num, by rw [E2.out], by rw [E1.out]; rfl, HB.out.trans hb'⟩
        case measure => simp [intOf]; omega
      · go_wp2_with fail
        refine HT.out.mono ?_
        rintro e w' ⟨rfl, hb'⟩
        go_wp2_with fail
        go_roundw
        case rel => exact ⟨k + 1, by omega, by go_num, by rw [E2.out], by rw [E1.out]; rfl, HB.out.trans hb'⟩
        case measure => simp [intOf]; omega
    · have hkn : k = n := by omega
      subst hkn
      go_wp2_with fail
      go_ret2
      exact ⟨rfl, HB.out⟩
set_option maxRecDepth 100000 in
theorem step_any (base D : Nat) (w : World) (v : Value) (zs : List Int) (x y f : Int) (o : Bool) (g : Nat) (lb : Array Value) (eg : ∀ args w, (callFunc g args).run Tryz.prog w = .ok (.enter g args) w)
    (hD : w.cell? ⟨D, 0, none⟩ = some (.func (.func g) #[] lb)) (hbase : base ≤ w.heap.size) (hrow : Row base w v zs) (hz : zs.length ≤ 6)
    (hdo : Calls Tryz.prog g (#[.int .i64 x, .int .i64 y] ++ lb) w fun e w' => e = .returned (.tuple #[.int .i64 f, .bool o]) ∧ Below w.heap.size w w') :
    Calls Tryz.prog 213 #[v, .int .i64 x, .int .i64 y, .pointer (some ⟨D, 0, none⟩)] w fun e w' => ∃ v', e = .returned (.tuple #[v', .bool o]) ∧ Row base w' v' (zs ++ [f]) ∧ Below base w w' := by
  obtain ⟨i0, hi, hz0, hz1, hz2⟩ := info_parts Tryz.infoI64
  have HR := Lib.hid hrow
  have HDO := Lib.hid hdo
  clear hrow hdo
  go_enter Tryz.func213, Tryz.ntmps213
  go_wp2_with fail
  refine HDO.out.mono ?_
  rintro e w1 ⟨rfl, hb1⟩
  have hs1 := hb1.size
  have hr1 := HR.out.below hb1
  have hown : w1.ownsRow base 3 1 v zs.length (icells zs) := hr1
  have HR1 := Lib.hid hr1
  clear hr1
  go_wp2_with (at_builtin; refine wpList_append_own _ rfl _ _ 28 rfl base 3 i0 (.int .i64 0) 1 8 Tryz.underlying28 hi hz0 hz1 hz2 rfl (by decide) _ _ _ rfl (hown.alloc _) ⟨w1.heap.size, 0, none⟩ 1 1 (icells [f]) rfl rfl (cell_num_put _ _ _) (icells_one _) (by unfold maxLen; omega) (by omega) (by simp; omega) ?_; intro v' w2 hown' hgrow _)
  have hput := HR1.out.put (by omega) _ hown' hgrow
  clear hown' hgrow hown
  go_wp2_with fail
  go_ret2
  exact ⟨_, rfl, hput.1, (hb1.mono hbase).trans hput.2⟩

/-- Row by row. -/
theorem eg_step : ∀ args w, (callFunc 213 args).run Tryz.prog w = .ok (.enter 213 args) w := enters_of Tryz.func213 (by kernel_rfl) rfl

set_option maxRecDepth 100000 in
theorem oneByOne_any (w : World) (a1 : Option Addr) (n1 c1 : Nat) (xs : List Int) (a2 : Option Addr) (n2 c2 : Nat) (ys : List Int) (g : Nat) (lb : Array Value) (F : Int → Int → Int) (G : Int → Int → Bool)
    (eg : ∀ args w, (callFunc g args).run Tryz.prog w = .ok (.enter g args) w)
    (hdo : ∀ (wr : World) (x y : Int), Below w.heap.size w wr → Calls Tryz.prog g (#[.int .i64 x, .int .i64 y] ++ lb) wr fun e w' => e = .returned (.tuple #[.int .i64 (F x y), .bool (G x y)]) ∧ Below wr.heap.size wr w')
    (h1 : IntsIn w.heap.size w a1 n1 xs) (h2 : IntsIn w.heap.size w a2 n2 ys) :
    Calls Tryz.prog 169 #[.slice a1 n1 c1, .slice a2 n2 c2, .func (.func g) #[] lb] w fun e w' =>
      ∃ v, e = .returned (.tuple #[v, .bool (flagP G xs ys)]) ∧ Row w.heap.size w' v (rowP F xs ys) ∧ Below w.heap.size w w' := by
  have hal : Below w.heap.size w (w.alloc (.cells #[.func (.func g) #[] lb] 139)) := (Below.refl _ _).alloc (Nat.le_refl _) _
  have k1 := (h1.below hal (Nat.le_refl _)).le hal.size
  have k2 := (h2.below hal (Nat.le_refl _)).le hal.size
  cases hp : pairB xs ys with
  | false =>
    rw [flagP_no G hp, rowP_no F hp]
    have HN := Lib.hid (throughRow_no _ a1 n1 c1 xs a2 n2 c2 ys (.func (.func 213) #[] #[.pointer (some ⟨w.heap.size, 0, none⟩)]) k1 k2 hp)
    have HA := Lib.hid hal
    clear k1 k2 hp h1 h2 hdo hal
    go_enter Tryz.func169, Tryz.ntmps169
    go_wp2_with fail
    refine HN.out.mono ?_
    rintro e w' ⟨rfl, rfl⟩
    go_wp2_with fail
    go_ret2
    exact ⟨_, rfl, Row.nil _ _, HA.out⟩
  | true =>
    obtain ⟨hp1, hp2, hl⟩ := pairB_has hp
    rw [flagP_yes G hp, rowP_yes F hp, h1.len]
    have hnn : n1 = n2 := by rw [← h1.len, ← h2.len]; exact hl
    subst hnn
    have hD : (w.alloc (.cells #[.func (.func g) #[] lb] 139)).cell? ⟨w.heap.size, 0, none⟩ = some (.func (.func g) #[] lb) := by
      rw [cell_of_row _ _ _ _ _ _ (heap_alloc_new w _)]
      rfl
    have hsz : (w.alloc (.cells #[.func (.func g) #[] lb] 139)).heap.size = w.heap.size + 1 := by simp
    have HY := Lib.hid (throughRow_yes _ a1 n1 c1 xs a2 c2 ys 213 #[.pointer (some ⟨w.heap.size, 0, none⟩)] F G eg_step (fun wr v zs x y hb hrow hz =>
      step_any _ w.heap.size wr v zs x y (F x y) (G x y) g lb eg ((hb.cell (p := ⟨w.heap.size, 0, none⟩) (by rw [hsz]; exact Nat.lt_succ_self _)).trans hD) hb.size hrow hz (hdo wr x y (hal.trans (hb.mono hal.size)))) k1 k2 hp1 hp2)
    have HA := Lib.hid hal
    clear k1 k2 hp h1 h2 hdo hal hp1 hp2 hl hD hsz
    go_enter Tryz.func169, Tryz.ntmps169
    go_wp2_with fail
    refine HY.out.mono ?_
    rintro e w' ⟨v, rfl, hrow, hb⟩
    go_wp2_with fail
    go_ret2
    exact ⟨_, rfl, hrow.le HA.out.size, HA.out.trans (hb.mono HA.out.size)⟩
end Go.Proofs.YtpnifgpmleaohaaGreatDoor

end

/-! YtpnifgpmleaohaaGreatDoorVecI -/
section

namespace Go.Proofs.YtpnifgpmleaohaaGreatDoor
open Go.RowKit
set_option linter.unusedVariables false

theorem eg_add : ∀ args w, (callFunc 101 args).run Tryz.prog w = .ok (.enter 101 args) w := enters_of Tryz.func101 (by kernel_rfl) rfl
theorem eg_sub : ∀ args w, (callFunc 170 args).run Tryz.prog w = .ok (.enter 170 args) w := enters_of Tryz.func170 (by kernel_rfl) rfl
theorem eg_scale : ∀ args w, (callFunc 289 args).run Tryz.prog w = .ok (.enter 289 args) w := enters_of Tryz.func289 (by kernel_rfl) rfl
theorem eg_dot : ∀ args w, (callFunc 210 args).run Tryz.prog w = .ok (.enter 210 args) w := enters_of Tryz.func210 (by kernel_rfl) rfl
theorem eg_relu : ∀ args w, (callFunc 297 args).run Tryz.prog w = .ok (.enter 297 args) w := enters_of Tryz.func297 (by kernel_rfl) rfl
theorem eg_mask : ∀ args w, (callFunc 299 args).run Tryz.prog w = .ok (.enter 299 args) w := enters_of Tryz.func299 (by kernel_rfl) rfl

theorem maskStep_any (x y : Int) (w : World) :
    Calls Tryz.prog 299 #[.int .i64 x, .int .i64 y] w fun e w' => e = .returned (.tuple #[.int .i64 (maskN x y), .bool false]) ∧ Below w.heap.size w w' := by
  by_cases h : 0 < x
  · rw [maskN_yes y h]
    have ht : decide (x > 0) = true := decide_eq_true h
    go_enter Tryz.func299, Tryz.ntmps299
    go_wp2_with fail
    go_ret2
    exact ⟨rfl, Below.refl _ _⟩
  · rw [maskN_no y h]
    have ht : decide (x > 0) = false := decide_eq_false h
    go_enter Tryz.func299, Tryz.ntmps299
    go_wp2_with fail
    go_ret2
    exact ⟨rfl, Below.refl _ _⟩
theorem reluStep_any (x y : Int) (w : World) (hg : LaidE w) :
    Calls Tryz.prog 297 #[.int .i64 x, .int .i64 y] w fun e w' => e = .returned (.tuple #[.int .i64 (reluN x), .bool false]) ∧ Below w.heap.size w w' := by
  have HG := Lib.hid hg
  clear hg
  go_enter Tryz.func297, Tryz.ntmps297
  go_wp2_with fail
  refine (implRelu_any x _ HG.out).mono ?_
  rintro e w1 ⟨rfl, hb⟩
  go_wp2_with fail
  go_ret2
  exact ⟨rfl, hb⟩
theorem scaleStep_any (D : Nat) (c x y : Int) (w : World) (hD : w.cell? ⟨D, 0, none⟩ = some (.int .i64 c)) (hg : LaidE w) :
    Calls Tryz.prog 289 #[.int .i64 x, .int .i64 y, .pointer (some ⟨D, 0, none⟩)] w fun e w' => e = .returned (.tuple #[.int .i64 (mulN c x), .bool (mulB c x)]) ∧ Below w.heap.size w w' := by
  have HG := Lib.hid hg
  clear hg
  go_enter Tryz.func289, Tryz.ntmps289
  go_wp2_with fail
  refine (implFixMul_any c x _ HG.out).mono ?_
  rintro e w1 ⟨rfl, hb⟩
  go_wp2_with fail
  go_ret2
  exact ⟨rfl, hb⟩
theorem dotStep_any (s x y : Int) (w : World) (hg : LaidE w) :
    Calls Tryz.prog 210 #[.int .i64 s, .int .i64 x, .int .i64 y] w fun e w' => e = .returned (.tuple #[.int .i64 (dotF s x y), .bool (dotG s x y)]) ∧ Below w.heap.size w w' := by
  have HG := Lib.hid hg
  have hlt := hg.lt
  clear hg
  obtain ⟨p, hp⟩ : ∃ p, mulN x y = p := ⟨_, rfl⟩
  obtain ⟨o, ho⟩ : ∃ o, mulB x y = o := ⟨_, rfl⟩
  have HM := Lib.hid (fun w h => implFixMul_any x y w h)
  rw [hp, ho] at HM
  unfold dotF dotG
  rw [hp, ho]
  clear hp ho
  cases o
  · go_enter Tryz.func210, Tryz.ntmps210
    go_wp2_with fail
    refine (HM.out _ HG.out).mono ?_
    rintro e w1 ⟨rfl, hb⟩
    go_wp2_with fail
    refine (implFixAdd_any s p _ (HG.out.below hlt hb)).mono ?_
    rintro e w2 ⟨rfl, hb2⟩
    go_wp2_with fail
    go_ret2
    exact ⟨rfl, hb.trans (hb2.mono hb.size)⟩
  · go_enter Tryz.func210, Tryz.ntmps210
    go_wp2_with fail
    refine (HM.out _ HG.out).mono ?_
    rintro e w1 ⟨rfl, hb⟩
    go_wp2_with fail
    refine (implFixAdd_any s p _ (HG.out.below hlt hb)).mono ?_
    rintro e w2 ⟨rfl, hb2⟩
    go_wp2_with fail
    go_ret2
    exact ⟨rfl, hb.trans (hb2.mono hb.size)⟩

/-- What a function that makes a row and a mark leaves. -/
def RowB (w : World) (zs : List Int) (o : Bool) (e : Ending) (w' : World) : Prop := ∃ v, e = .returned (.tuple #[v, .bool o]) ∧ Row w.heap.size w' v zs ∧ Below w.heap.size w w'
/-- What a function that makes a row leaves. -/
def RowV (w : World) (zs : List Int) (e : Ending) (w' : World) : Prop := ∃ v, e = .returned v ∧ Row w.heap.size w' v zs ∧ Below w.heap.size w w'
/-- What a function that makes a number and a mark leaves. -/
def NumB (w : World) (x : Int) (o : Bool) (e : Ending) (w' : World) : Prop := e = .returned (.tuple #[.int .i64 x, .bool o]) ∧ Below w.heap.size w w'

set_option maxRecDepth 100000 in
theorem implVecAdd_any (w : World) (a1 : Option Addr) (n1 c1 : Nat) (xs : List Int) (a2 : Option Addr) (n2 c2 : Nat) (ys : List Int) (h1 : IntsIn w.heap.size w a1 n1 xs) (h2 : IntsIn w.heap.size w a2 n2 ys) (hg : LaidE w) :
    Calls Tryz.prog 292 #[.slice a1 n1 c1, .slice a2 n2 c2] w (RowB w (rowP addN xs ys) (flagP addB xs ys)) := by
  have hlt := hg.lt
  have H := Lib.hid (oneByOne_any w a1 n1 c1 xs a2 n2 c2 ys 101 #[] addN addB eg_add (fun wr x y hb => by rw [Array.append_empty]; exact implFixAdd_any x y wr (hg.below hlt hb)) h1 h2)
  clear h1 h2 hg hlt
  go_enter Tryz.func292, Tryz.ntmps292
  go_wp2_with fail
  refine H.out.mono ?_
  rintro e w1 ⟨v, rfl, hr, hb⟩
  go_wp2_with fail
  go_ret2
  exact ⟨_, rfl, hr, hb⟩
set_option maxRecDepth 100000 in
theorem implVecSub_any (w : World) (a1 : Option Addr) (n1 c1 : Nat) (xs : List Int) (a2 : Option Addr) (n2 c2 : Nat) (ys : List Int) (h1 : IntsIn w.heap.size w a1 n1 xs) (h2 : IntsIn w.heap.size w a2 n2 ys) (hg : LaidE w) :
    Calls Tryz.prog 104 #[.slice a1 n1 c1, .slice a2 n2 c2] w (RowB w (rowP subN xs ys) (flagP subB xs ys)) := by
  have hlt := hg.lt
  have H := Lib.hid (oneByOne_any w a1 n1 c1 xs a2 n2 c2 ys 170 #[] subN subB eg_sub (fun wr x y hb => by rw [Array.append_empty]; exact implFixSub_any x y wr (hg.below hlt hb)) h1 h2)
  clear h1 h2 hg hlt
  go_enter Tryz.func104, Tryz.ntmps104
  go_wp2_with fail
  refine H.out.mono ?_
  rintro e w1 ⟨v, rfl, hr, hb⟩
  go_wp2_with fail
  go_ret2
  exact ⟨_, rfl, hr, hb⟩
set_option maxRecDepth 100000 in
theorem implVecRelu_any (w : World) (a1 : Option Addr) (n1 c1 : Nat) (xs : List Int) (h1 : IntsIn w.heap.size w a1 n1 xs) (hg : LaidE w) :
    Calls Tryz.prog 295 #[.slice a1 n1 c1] w (RowV w (rowP (fun x _ => reluN x) xs xs)) := by
  have hlt := hg.lt
  have H := Lib.hid (oneByOne_any w a1 n1 c1 xs a1 n1 c1 xs 297 #[] (fun x _ => reluN x) (fun _ _ => false) eg_relu (fun wr x y hb => by rw [Array.append_empty]; exact reluStep_any x y wr (hg.below hlt hb)) h1 h1)
  clear h1 hg hlt
  go_enter Tryz.func295, Tryz.ntmps295
  go_wp2_with fail
  refine H.out.mono ?_
  rintro e w1 ⟨v, rfl, hr, hb⟩
  go_wp2_with fail
  go_ret
  exact ⟨_, rfl, hr, hb⟩
set_option maxRecDepth 100000 in
theorem implVecMask_any (w : World) (a1 : Option Addr) (n1 c1 : Nat) (xs : List Int) (a2 : Option Addr) (n2 c2 : Nat) (ys : List Int) (h1 : IntsIn w.heap.size w a1 n1 xs) (h2 : IntsIn w.heap.size w a2 n2 ys) :
    Calls Tryz.prog 296 #[.slice a1 n1 c1, .slice a2 n2 c2] w (RowV w (rowP maskN xs ys)) := by
  have H := Lib.hid (oneByOne_any w a1 n1 c1 xs a2 n2 c2 ys 299 #[] maskN (fun _ _ => false) eg_mask (fun wr x y hb => by rw [Array.append_empty]; exact maskStep_any x y wr) h1 h2)
  clear h1 h2
  go_enter Tryz.func296, Tryz.ntmps296
  go_wp2_with fail
  refine H.out.mono ?_
  rintro e w1 ⟨v, rfl, hr, hb⟩
  go_wp2_with fail
  go_ret
  exact ⟨_, rfl, hr, hb⟩
set_option maxRecDepth 100000 in
theorem implVecScale_any (c : Int) (w : World) (a1 : Option Addr) (n1 c1 : Nat) (xs : List Int) (h1 : IntsIn w.heap.size w a1 n1 xs) (hg : LaidE w) :
    Calls Tryz.prog 287 #[.int .i64 c, .slice a1 n1 c1] w (RowB w (scaleN c xs) (scaleB c xs)) := by
  have hal : Below w.heap.size w (w.alloc (.cells #[.int .i64 c] 3)) := (Below.refl _ _).alloc (Nat.le_refl _) _
  have hsz : (w.alloc (.cells #[.int .i64 c] 3)).heap.size = w.heap.size + 1 := by simp
  have hD : (w.alloc (.cells #[.int .i64 c] 3)).cell? ⟨w.heap.size, 0, none⟩ = some (.int .i64 c) := by
    rw [cell_of_row _ _ _ _ _ _ (heap_alloc_new w _)]
    rfl
  have hlt := hg.lt
  have k1 := (h1.below hal (Nat.le_refl _)).le hal.size
  have hg1 : LaidE (w.alloc (.cells #[.int .i64 c] 3)) := hg.below hlt hal
  have hlt1 := hg1.lt
  have HF := Lib.hid (fun w => implFixOk_any c w)
  have H := Lib.hid (oneByOne_any _ a1 n1 c1 xs a1 n1 c1 xs 289 #[.pointer (some ⟨w.heap.size, 0, none⟩)] (fun x _ => mulN c x) (fun x _ => mulB c x) eg_scale
    (fun wr x y hb => scaleStep_any w.heap.size c x y wr ((hb.cell (p := ⟨w.heap.size, 0, none⟩) (by rw [hsz]; exact Nat.lt_succ_self _)).trans hD) (hg1.below hlt1 hb)) k1 k1)
  unfold scaleN scaleB
  have HA := Lib.hid hal
  obtain ⟨o, ho⟩ : ∃ o, okB c = o := ⟨_, rfl⟩
  rw [ho]
  rw [ho] at HF
  clear h1 hg hlt k1 hg1 hlt1 hal hsz ho hD
  cases o
  · go_enter Tryz.func287, Tryz.ntmps287
    go_wp2_with fail
    refine (HF.out _).mono ?_
    rintro e w1 ⟨rfl, rfl⟩
    go_wp2_with fail
    go_ret2
    exact ⟨_, rfl, Row.nil _ _, HA.out⟩
  · go_enter Tryz.func287, Tryz.ntmps287
    go_wp2_with fail
    refine (HF.out _).mono ?_
    rintro e w1 ⟨rfl, rfl⟩
    go_wp2_with fail
    refine H.out.mono ?_
    rintro e w1 ⟨v, rfl, hr, hb⟩
    go_wp2_with fail
    go_ret2
    exact ⟨_, rfl, hr.le HA.out.size, HA.out.trans (hb.mono HA.out.size)⟩
set_option maxRecDepth 100000 in
theorem implVecDot_any (w : World) (a1 : Option Addr) (n1 c1 : Nat) (xs : List Int) (a2 : Option Addr) (n2 c2 : Nat) (ys : List Int) (h1 : IntsIn w.heap.size w a1 n1 xs) (h2 : IntsIn w.heap.size w a2 n2 ys) (hg : LaidE w) :
    Calls Tryz.prog 168 #[.slice a1 n1 c1, .slice a2 n2 c2] w (NumB w (dotN xs ys) (dotB xs ys)) := by
  cases hp : pairB xs ys with
  | false =>
    rw [dotN_no hp, dotB_no hp]
    have HN := Lib.hid (throughInt_no w a1 n1 c1 xs a2 n2 c2 ys (.func (.func 210) #[] #[]) h1 h2 hp)
    clear h1 h2 hp hg
    go_enter Tryz.func168, Tryz.ntmps168
    go_wp2_with fail
    refine HN.out.mono ?_
    rintro e w1 ⟨rfl, rfl⟩
    go_wp2_with fail
    go_ret2
    exact ⟨rfl, Below.refl _ _⟩
  | true =>
    obtain ⟨hp1, hp2, hl⟩ := pairB_has hp
    have hlt := hg.lt
    rw [dotN_yes hp, dotB_yes hp, h1.len]
    have hnn : n1 = n2 := by rw [← h1.len, ← h2.len]; exact hl
    subst hnn
    have HY := Lib.hid (throughInt_yes w a1 n1 c1 xs a2 c2 ys 210 #[] dotF dotG eg_dot (fun wr s x y hb => by rw [Array.append_empty]; exact (dotStep_any s x y wr (hg.below hlt hb)).mono fun e w' ⟨he, hb'⟩ => ⟨he, hb'.mono hb.size⟩) h1 h2 hp1 hp2)
    clear h1 h2 hp hg hp1 hp2 hl hlt
    go_enter Tryz.func168, Tryz.ntmps168
    go_wp2_with fail
    refine HY.out.mono ?_
    rintro e w1 ⟨rfl, hb⟩
    go_wp2_with fail
    go_ret2
    exact ⟨rfl, hb⟩
end Go.Proofs.YtpnifgpmleaohaaGreatDoor

end
