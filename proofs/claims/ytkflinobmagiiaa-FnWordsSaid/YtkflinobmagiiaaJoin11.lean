import Derived.Test.YtkflinobmagiiaaJoin7
import Derived.Test.YtkflinobmagiiaaJoin10
import Derived.Test.YtkflinobmagiiaaJoin6
/-! YtkflinobmagiiaaDrawVec -/
section

namespace Go.Proofs.Ytkflinobmagiiaa
open Go.RowKit
set_option linter.unusedVariables false

theorem Turned.put {B : Nat} {w w1 w2 : World} {C : Nat} {v : Value} {zs : List Int} (h : Turned B w w1 C) (hC : C < w.heap.size) (hrow : Row w.heap.size w1 v zs) (o : Obj) (hg : (w1.alloc o).grownBy w2 v.ownBlock) : Turned B w w2 C := by
  have hup := h.1.up
  refine ⟨(h.1.alloc o).grown hg (fun k hk => ?_), ?_⟩
  · have := (hrow.lt k hk).1
    exact ⟨by omega, by omega⟩
  · have hs := h.size
    refine ⟨hg.os.trans h.2.os, hg.tape.trans h.2.tape, hg.output.trans h.2.output, Nat.le_trans h.2.size (Nat.le_trans (by simp) hg.size), fun b hb hne => ?_⟩
    rw [hg.block b (by simp; omega) (fun e => by have := (hrow.lt b e.symm).1; omega), Below.heap_alloc _ _ _ (by omega)]
    exact h.2.block b hb hne
theorem Turned.store {B : Nat} {w w1 w2 : World} {C : Nat} {g : Nat} (h : Turned B w w1 C) (hC : C < w.heap.size) (hg : w1.grownBy w2 (some g)) (hge : w.heap.size ≤ g) : Turned B w w2 C := by
  have hup := h.1.up
  refine ⟨h.1.grown hg (fun k hk => ?_), ?_⟩
  · cases hk; exact ⟨by omega, by omega⟩
  · have hs := h.size
    refine ⟨hg.os.trans h.2.os, hg.tape.trans h.2.tape, hg.output.trans h.2.output, Nat.le_trans h.2.size hg.size, fun b hb hne => ?_⟩
    rw [hg.block b (by omega) (fun e => by cases e; omega)]
    exact h.2.block b hb hne
theorem Row.turned {base B : Nat} {w w' : World} {C : Nat} {v : Value} {zs : List Int} (h : Row base w v zs) (hC : C < base) (ht : Turned B w w' C) : Row base w' v zs :=
  h.kept ht.2 (by
    cases e : v.ownBlock with
    | none => exact .inl rfl
    | some g =>
      refine .inr fun e2 => ?_
      have := h.lt g e
      cases e2
      omega)

theorem Row.first {base : Nat} {w : World} {v : Value} {xs : List Int} (h : Row base w v xs) (hn : 0 < xs.length) : ∃ g cap, v = .slice (some ⟨g, 0, none⟩) xs.length cap ∧ base ≤ g ∧ g < w.heap.size := by
  have hlt := World.ownsRow.lt h
  rcases h.2 with ⟨_, h0⟩ | ⟨g, cap, cur, rfl, _⟩
  · omega
  · exact ⟨g, cap, rfl, hlt g rfl⟩
/-- A row of numbers was drawn. -/
def DrewV (P : List Int → Prop) (B : Nat) (w : World) (C : Nat) (e : Ending) (w' : World) : Prop := ∃ v xs, e = .returned v ∧ P xs ∧ Row w.heap.size w' v xs ∧ Turned B w w' C

set_option maxRecDepth 100000 in
theorem l3Vec_e (B : Nat) (w : World) (C : Nat) (n : Nat) (hn : n ≤ 100) (hc : Cu B w C) :
    Calls Try.prog 100 #[.pointer (some ⟨C, 0, none⟩), .int .i64 n] w (DrewV (fun xs => xs.length = n) B w C) := by
  obtain ⟨i0, hi, hz0, hz1, hz2⟩ := info_parts Try.infoI64
  have HC := Lib.hid hc
  have hlt := hc.lt
  clear hc
  go_enter Try.func100, Try.ntmps100
  go_wp2_with fail
  go_loopw [5, 6] (fun m i wr => ∃ (k : Nat) (xs : List Int), k ≤ n ∧ i = .int .i64 k ∧ Hid (xs.length = k) ∧ Row w.heap.size wr m xs ∧ Turned B w wr C) (fun _ i _ => n - (intOf i).toNat)
  case atStart => exact ⟨0, [], Nat.zero_le _, rfl, Lib.hid rfl, Row.empty w _ rfl, (Turned.refl HC.out).alloc _⟩
  case round =>
    obtain ⟨k, xs, hk, rfl, hl, hrow, ht⟩ := hrel
    have HR := Lib.hid hrow
    have HT := Lib.hid ht
    clear hrow ht
    by_cases hlk : k < n
    · go_wp2_with fail
      refine (l2Fix_e B _ C HT.out.cu).mono ?_
      rintro e w2 ⟨x, rfl, _, ht2⟩
      have hr2 := HR.out.turned hlt ht2
      have ht2' := HT.out.trans ht2
      have hsz := ht2'.size
      have hown : w2.ownsRow w.heap.size 3 1 _ xs.length (icells xs) := hr2
      have hxl : xs.length ≤ 100 := by rw [hl.out]; omega
      have HR2 := Lib.hid hr2
      have HT2 := Lib.hid ht2'
      clear ht2 hr2 ht2'
      go_wp2_with (at_builtin; refine wpList_append_own _ rfl _ _ 27 rfl w.heap.size 3 i0 (.int .i64 0) 1 8 Try.underlying27 hi hz0 hz1 hz2 rfl (by decide) _ _ _ rfl (hown.alloc _) ⟨w2.heap.size, 0, none⟩ 1 1 (icells [x]) rfl rfl (cell_num_put _ _ _) (icells_one _) (by unfold maxLen; omega) (by omega) (by simp; omega) ?_; intro v' w3 hown' hgrow _)
      have hput := Row.put HR2.out hsz _ hown' hgrow
      have htt := HT2.out.put hlt HR2.out _ hgrow
      clear hown' hgrow hown
      go_wp2_with fail
      go_roundw
      case rel => exact ⟨k + 1, xs ++ [x], by omega, by go_num, Lib.hid (by rw [List.length_append, hl.out]; rfl), hput.1, htt⟩
      case measure => simp [intOf]; omega
    · obtain rfl : k = n := by omega
      go_wp2_with fail
      go_ret
      exact ⟨_, xs, rfl, hl.out, HR.out, HT.out⟩

set_option maxRecDepth 100000 in
theorem l3Any_e (B : Nat) (w : World) (C : Nat) (hc : Cu B w C) :
    Calls Try.prog 90 #[.pointer (some ⟨C, 0, none⟩)] w (DrewV (fun xs => xs.length ≤ 7) B w C) := by
  have HC := Lib.hid hc
  have hlt := hc.lt
  clear hc
  go_enter Try.func90, Try.ntmps90
  go_wp2_with fail
  refine (l1Below_e B _ C 4 (by omega) HC.out).mono ?_
  rintro e w1 ⟨x, rfl, ⟨x0, x1⟩, ht1⟩
  obtain ⟨n, rfl⟩ : ∃ n : Nat, x = n := ⟨x.toNat, by omega⟩
  have hs1 := ht1.size
  go_wp2_with fail
  refine (l3Vec_e B _ C (1 + n) (by omega) ht1.cu).mono ?_
  rintro e w2 ⟨v, xs, rfl, hxl, hrow, ht2⟩
  have hr2 := hrow.le hs1
  have ht12 := ht1.trans ht2
  have hs2 := ht2.size
  obtain ⟨g, cp, rfl, hg1, hg2⟩ := hr2.first (by omega)
  have HR := Lib.hid hr2
  have HT := Lib.hid ht12
  have HL := Lib.hid hxl
  clear ht1 ht2 hrow hr2 ht12 hxl
  go_wp2_with fail
  refine (l1Below_e B _ C 16 (by omega) HT.out.cu).mono ?_
  rintro e w3 ⟨k, rfl, ⟨k0, k1⟩, ht3⟩
  have hr3 := HR.out.turned hlt ht3
  have ht3' := HT.out.trans ht3
  have hs3 := ht3.size
  have HR3 := Lib.hid hr3
  have HT3 := Lib.hid ht3'
  clear ht3 hr3 ht3'
  by_cases e0 : k = 0
  · subst e0
    go_wp2_with fail
    refine (l2Raw_e B _ C HT3.out.cu).mono ?_
    rintro e w4 ⟨y, rfl, _, ht4⟩
    have hr4 := HR3.out.turned hlt ht4
    have ht4' := HT3.out.trans ht4
    have hfr := World.ownsRow.frozenAt hr4 0
    obtain ⟨u, hu⟩ : ∃ u, w4.cell? ⟨g, 0, none⟩ = some u := by
      rw [World.ownsRow.cellAt hr4 0 (by have := HL.out; omega)]
      exact ⟨_, List.getElem?_eq_getElem (by rw [icells_length]; have := HL.out; omega)⟩
    have hs4 := ht4'.size
    have hst := World.ownsRow.stored hr4 0 (.int .i64 y)
    have HS1 := Lib.hid hst.1
    have HS2 := Lib.hid (ht4'.store hlt hst.2 hg1)
    have hix : (0 : Int) < (xs.length : Int) := by have := HL.out; omega
    clear ht4 hr4 ht4' hst
    go_wp2_with fail
    go_ret
    have h1 := HS1.out
    rw [icells_set] at h1
    refine ⟨_, xs.set 0 y, rfl, by show (xs.set 0 y).length ≤ 7; rw [List.length_set, HL.out]; omega, ?_, HS2.out⟩
    unfold Row
    rw [List.length_set]
    exact h1
  · have t0 : (k == 0) = false := by simpa using e0
    by_cases e1 : k = 1
    · subst e1
      go_wp2_with fail
      refine (l1PickInt_e B _ C w3.heap.size 3 [0, 6, 7] (fun x => 0 ≤ x ∧ x ≤ 7) rfl (by omega) (by omega) (by decide) (HT3.out.cu.alloc _) (by omega) (fun j hj => ints_cells w3 _ _ j hj)).mono ?_
      rintro e w4 ⟨y, rfl, ⟨y0, y1⟩, ht4⟩
      obtain ⟨m, rfl⟩ : ∃ m : Nat, y = m := ⟨y.toNat, by omega⟩
      have ht4' := (HT3.out.alloc _).trans ht4
      have hs4 := ht4'.size
      have HT4 := Lib.hid ht4'
      clear ht4 ht4'
      go_wp2_with fail
      refine (l3Vec_e B _ C m (by omega) HT4.out.cu).mono ?_
      rintro e w5 ⟨v, zs, rfl, hzl, hrow, ht5⟩
      go_wp2_with fail
      go_ret
      exact ⟨v, zs, rfl, by omega, hrow.le hs4, HT4.out.trans ht5⟩
    · have t1 : (k == 1) = false := by simpa using e1
      go_wp2_with fail
      go_ret
      exact ⟨_, xs, rfl, by show xs.length ≤ 7; rw [HL.out]; omega, HR3.out, HT3.out⟩

/-- Two rows. -/
def DrewVV (B : Nat) (w : World) (C : Nat) (e : Ending) (w' : World) : Prop := ∃ v xs u ys, e = .returned (.tuple #[v, u]) ∧ (xs.length ≤ 7 ∧ ys.length ≤ 7) ∧ Row w.heap.size w' v xs ∧ Row w.heap.size w' u ys ∧ Turned B w w' C

end Go.Proofs.Ytkflinobmagiiaa

end

/-! YtkflinobmagiiaaLaws -/
section

namespace Go.Proofs.Ytkflinobmagiiaa
open Go.RowKit
set_option linter.unusedVariables false

theorem big_no (a : Option Addr) (cap : Nat) (bs : List UInt8) (hroom : bs.length ≤ 1048576) (w : World) :
    Calls Try.prog 10 #[.slice a bs.length cap] w fun e w' => e = .returned (.bool false) ∧ w = w' := by
  have hd : decide (1048576 < (bs.length : Int)) = false := by simp; omega
  go_enter Try.func10, Try.ntmps10
  go_wp2
  go_ret
  exact ⟨rfl, rfl⟩
theorem big_yes (a : Option Addr) (len cap : Nat) (hbig : 1048576 < len) (hm : len ≤ 9223372036854775807) (w : World) :
    Calls Try.prog 10 #[.slice a len cap] w fun e w' => e = .returned (.bool true) ∧ w = w' := by
  have hd : decide (1048576 < (len : Int)) = true := by simp; omega
  go_enter Try.func10, Try.ntmps10
  go_wp2
  go_ret
  exact ⟨rfl, rfl⟩
/-- A slice of bytes that came in, as a code. -/
theorem codeRow (W : World) (x : Addr) (len : Nat) (zs : List Int) (hl : len ≤ zs.length) (hcell : ∀ i, i < zs.length → W.cell? (x.add i) = some (.int .u8 (zs.getD i 0))) (hwz : ∀ n ∈ zs, (Lit.int .u8 n).wf = true) :
    ∃ bs : List UInt8, bs.length = len ∧ ∀ j (hj : j < bs.length), ∃ b o, (some x : Option Addr) = some ⟨b, o, none⟩ ∧ b < W.heap.size ∧ W.cell? ⟨b, o + j, none⟩ = some (.int .u8 (bs[j].toNat : Int)) := by
  refine ⟨(zs.take len).map (fun n => UInt8.ofNat n.toNat), by simp [hl], fun j hj => ?_⟩
  have hj' : j < len := by simpa [hl] using hj
  obtain ⟨b, off, spot⟩ := x
  have hc := hcell j (by omega)
  have hspot : spot = none := by
    have := World.cell?_spot (hcell 0 (by omega))
    simpa [Addr.add] using this
  subst hspot
  rw [Addr.add_lit] at hc
  have hg : zs.getD j 0 = zs[j] := by simp [List.getD, (by omega : j < zs.length)]
  have hb := bounds_u8 (hwz zs[j] (List.getElem_mem _))
  refine ⟨b, off, rfl, World.block_lt_of_cell? W _ hc, ?_⟩
  rw [hc, hg]
  have e : ((zs.take len).map (fun n => UInt8.ofNat n.toNat))[j] = UInt8.ofNat zs[j].toNat := by simp
  rw [e, u8_ofNat_toNat _ (by omega)]
  congr 2
  omega
theorem CodeIn.le {B B' : Nat} {w : World} {a : Option Addr} {bs : List UInt8} (h : CodeIn B w a bs) (hB : B ≤ B') : CodeIn B' w a bs :=
  ⟨h.room, fun j hj => by
    obtain ⟨b, o, e1, e2, e3⟩ := h.code j hj
    exact ⟨b, o, e1, Nat.lt_of_lt_of_le e2 hB, e3⟩⟩
/-- A law over a code that is too long, and over one that is not. -/
theorem law_of (F : FuncId) (w : World) (a : Option Addr) (len cap : Nat) (hm : len ≤ 9223372036854775807)
    (hb : ∃ bs : List UInt8, bs.length = len ∧ ∀ j (hj : j < bs.length), ∃ b o, a = some ⟨b, o, none⟩ ∧ b < w.heap.size ∧ w.cell? ⟨b, o + j, none⟩ = some (.int .u8 (bs[j].toNat : Int)))
    (hbig : 1048576 < len → Calls Try.prog F #[.slice a len cap] w fun e w' => e = .returned (.bool true) ∧ Below w.heap.size w w')
    (hsmall : ∀ bs : List UInt8, CodeIn w.heap.size w a bs → Calls Try.prog F #[.slice a bs.length cap] w fun e w' => e = .returned (.bool true) ∧ Below w.heap.size w w') :
    Calls Try.prog F #[.slice a len cap] w fun e w' => e = .returned (.bool true) ∧ Below w.heap.size w w' := by
  by_cases h : 1048576 < len
  · exact hbig h
  · obtain ⟨bs, rfl, hcode⟩ := hb
    exact hsmall bs ⟨by omega, hcode⟩
end Go.Proofs.Ytkflinobmagiiaa

end
