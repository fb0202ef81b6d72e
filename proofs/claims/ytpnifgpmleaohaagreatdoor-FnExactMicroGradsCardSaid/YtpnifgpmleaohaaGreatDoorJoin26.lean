/-
  What comes back: the model's l7Back.
-/
import Derived.Test.YtpnifgpmleaohaaGreatDoorJoin16
namespace Go.Proofs.YtpnifgpmleaohaaGreatDoor
open Go.RowKit Go.Sort
set_option linter.unusedVariables false

theorem listK_set {α : Type} (f : Nat → α) (n j : Nat) (y : α) (hj : j < n) : (listK f n).set j y = listK (fun i => if i = j then y else f i) n := by
  apply List.ext_getElem?
  intro i
  by_cases hi : i < n
  · rw [listK_get _ _ _ hi]
    by_cases e : i = j
    · subst e
      rw [List.getElem?_set_self (by rw [listK_length]; exact hj), if_pos rfl]
    · rw [List.getElem?_set_ne (fun e' => e e'.symm), listK_get _ _ _ hi, if_neg e]
  · rw [List.getElem?_eq_none (by rw [List.length_set, listK_length]; omega), List.getElem?_eq_none (by rw [listK_length]; omega)]
/-- A list of rows that is made whole: each is nothing. -/
theorem ListL.made (w : World) (n : Nat) (h : n ≤ 9223372036854775807) : ListL ownRow 56 w.heap.size (w.alloc (.cells (madeCells #[.slice none 0 0] n) 56 (0, 0))).heap.size (w.alloc (.cells (madeCells #[.slice none 0 0] n) 56 (0, 0))) (.slice (some ⟨w.heap.size, 0, none⟩) n n) (listK (fun _ => ([] : List Int)) n) := by
  have h3 := World.ownsRow_lit (base := w.heap.size) (e := 56) (size := 1) w (madeCells #[.slice none 0 0] n) n (Nat.le_refl _) (by unfold maxLen; omega) (by rw [size_madeCells, Nat.mul_one])
  rw [toList_madeCells_one] at h3
  refine ⟨Nat.le_refl _, List.replicate n (.slice none 0 0), fun _ _ _ => False, by rw [listK_length]; exact h3, fun g hg => ?_, fun j y hy => ?_, fun j b o f => f.elim, fun j j' _ b o f => f.elim⟩
  · have e : w.heap.size = g := by simpa [Value.ownBlock] using hg
    rw [size_one']
    omega
  · have hj : j < n := by
      have := (List.getElem?_eq_some_iff.1 hy).1
      rwa [listK_length] at this
    rw [listK_get _ _ _ hj] at hy
    cases hy
    refine ⟨[.slice none 0 0], fun i v hv => ?_, none, 0, 0, rfl, Nat.le_refl _, by omega, rfl, .inl rfl⟩
    cases i with
    | zero =>
      simp at hv
      subst hv
      rw [ownRow_size, Nat.mul_one, Nat.add_zero, List.getElem?_replicate, if_pos hj]
    | succ i => simp at hv
/-- Where a list that is not empty lies: a place may be written. -/
theorem ListL.place {T : TypeId} {lo hi : Nat} {w : World} {a : Option Addr} {n c : Nat} {xs : List dRow} (h : ListL ownRow T lo hi w (.slice a n c) xs) (j : Nat) (hj : j < n) :
    ∃ g u, a = some ⟨g, 0, none⟩ ∧ lo ≤ g ∧ g < hi ∧ w.cell? ⟨g, j, none⟩ = some u ∧ w.frozen? ⟨g, j, none⟩ = false ∧ n = xs.length := by
  obtain ⟨us, G, h1, h2, -⟩ := h.all
  have h1' := h1
  have hus := h1.1
  rcases h1.2 with ⟨e, hn⟩ | ⟨g, cap, cur, e, e1, e2, e3, e4, -⟩
  · simp only [Value.slice.injEq] at e
    omega
  · cases e
    rw [ownRow_size, Nat.mul_one] at hus
    refine ⟨g, _, rfl, e1, h2 g rfl, (World.ownsRow.cellAt h1' j (by show j < xs.length * 1; omega)).trans (List.getElem?_eq_getElem (by omega)), World.ownsRow.frozenAt h1' j, rfl⟩
set_option maxRecDepth 100000 in
set_option maxHeartbeats 6400000 in
theorem specL7Back_any (w : World) (a : Option Addr) (n c : Nat) (m : List dOp) (h : ListAt shOp (Under w.heap.size) w a n m) (hb : (Shape.list shOp).bulk m ≤ 1048576) (ai : Option Addr) (ni ci : Nat) (is : List dRow) (hi : ListAt shRow (Under w.heap.size) w ai ni is) (xs : List Int)
    (hin : ∀ j, j < n → is[j]? = some (inK m xs j)) (hsm : xs.length ≤ 6) (ad : Option Addr) (nd cd : Nat) (ds : List Int) (hd : IntsIn w.heap.size w ad nd ds) (hn0 : 1 ≤ n) (hn8 : n ≤ 8) :
    Calls Tryz.prog 110 #[.slice a n c, .slice ai ni ci, .slice ad nd cd] w fun e w' => ∃ v u, e = .returned (.tuple #[v, u, .bool (backKB m xs ds n)]) ∧ ListL ownRow 56 w.heap.size w'.heap.size w' v (gradsN m xs ds) ∧ Below w.heap.size w w' := by
  have hlen := h.1
  rw [bulk_list _ h] at hb
  have hmk := run_make_many (P := Tryz.prog) 27 56 _ 1 24 Tryz.underlying27 infoRow1 n (by omega) (by omega)
  have hli : ni = is.length := hi.1.symm
  have hnn : n ≤ ni := by
    have := (List.getElem?_eq_some_iff.1 (hin (n - 1) (by omega))).1
    omega
  have hms := ListL.made w n (by omega)
  have hbs : Below w.heap.size w (w.alloc (.cells (madeCells #[.slice none 0 0] n) 56 (0, 0))) := (Below.refl _ _).alloc (Nat.le_refl _) _
  obtain ⟨G, hG⟩ : ∃ G, gradAt m xs ds = G := ⟨_, rfl⟩
  have hsm' : ∀ k, (inK m xs k).length ≤ 6 := fun k => by
    cases k with
    | zero => exact hsm
    | succ k => exact fwOp_length _ _
  have HL := Lib.hid h
  have HI := Lib.hid hi
  have HB := Lib.hid hb
  have HIN := Lib.hid hin
  have HSM := Lib.hid hsm'
  have HG := Lib.hid hG
  have HMS := Lib.hid hms
  have HBS := Lib.hid hbs
  have HD := Lib.hid hd
  have hw0 : wrap64 ((n : Int) - 1) = (n : Int) - 1 := by rw [IntWalk.wrap64_in _ (by omega)]
  clear h hi hb hin hsm hsm' hG hms hbs hli hd
  go_enter Tryz.func110, Tryz.ntmps110
  go_wp2_with fail
  generalize hwa : w.alloc (.cells (madeCells #[.slice none 0 0] n) 56 (0, 0)) = wa at HMS HBS ⊢
  clear hwa hmk
  go_loopw [2, 10, 11] (fun d o i wr => ∃ (t : Nat) (a3 : Option Addr) (n3 c3 : Nat) (q : Bool), t ≤ n ∧ i = .int .i64 ((n : Int) - 1 - (t : Nat)) ∧ d = .slice a3 n3 c3 ∧ IntsIn wr.heap.size wr a3 n3 (backK m xs ds t) ∧ o = .bool q ∧ Hid (q = backKB m xs ds t) ∧ ListL ownRow 56 w.heap.size wr.heap.size wr (.slice (some ⟨w.heap.size, 0, none⟩) n n) (listK (fun j => if j < n - t then [] else G j) n) ∧ Below w.heap.size w wr) (fun _ _ i _ => (intOf i + 1).toNat)
  case atStart =>
    refine ⟨0, ad, nd, cd, false, Nat.zero_le _, by simp, rfl, (HD.out.below HBS.out (Nat.le_refl _)).le HBS.out.size, rfl, Lib.hid rfl, ?_, HBS.out⟩
    have e : listK (fun j => if j < n - 0 then [] else G j) n = listK (fun _ => ([] : List Int)) n := listK_congr fun j hj => if_pos (by omega)
    rw [e]
    exact HMS.out
  case round =>
    obtain ⟨t, a3, n3, c3, q, ht, rfl, rfl, hd3, rfl, ho, hli, hbw⟩ := hrel
    have hsz := hbw.size
    by_cases hlt : t < n
    · obtain ⟨j, hj⟩ : ∃ j, n - 1 - t = j := ⟨_, rfl⟩
      have hjn : j < n := by omega
      have hji : j < ni := by omega
      have hz : (n : Int) - 1 - (t : Nat) = (j : Nat) := by omega
      have hw1 : wrap64 ((j : Int) - 1) = (j : Int) - 1 := by rw [IntWalk.wrap64_in _ (by omega)]
      have HT1 : Hid ((j : Int) - 1 = (n : Int) - 1 - ((t + 1 : Nat) : Int)) := Lib.hid (by omega)
      have HM1 : Hid ((j : Int) + 1 = ((n : Int) - 1 - (t : Nat)) + 1) := Lib.hid (by omega)
      rw [hz]
      obtain ⟨x, hx⟩ : ∃ x, m[j]? = some x := ⟨_, List.getElem?_eq_getElem (by rw [hlen]; exact hjn)⟩
      obtain ⟨b1, o1, es, rfl, hbB1, hr, hs⟩ := HL.out.2 j x hx
      obtain ⟨b2, o2, es2, rfl, hbB2, hr2, hs2⟩ := HI.out.2 j _ (HIN.out j hjn)
      have hrr := rangeAt_kept hr (show b1 < w.heap.size from hbB1) (Kept.of_below (I := Under w.heap.size) hbw fun b hb => hb)
      have hrr2 := rangeAt_kept hr2 (show b2 < w.heap.size from hbB2) (Kept.of_below (I := Under w.heap.size) hbw fun b hb => hb)
      have hdr : Below w.heap.size w wr.drew := hbw.trans ⟨rfl, rfl, rfl, Nat.le_refl _, fun _ _ => rfl⟩
      have hsw := shOp.below hs hdr (Nat.le_refl _)
      have hsw2 := shRow.below hs2 hdr (Nat.le_refl _)
      have hbx' : shOp.bulk x ≤ 1048576 := by have h1 := bulk_mem shOp.bulk m j x hx; have h2 := HB.out; omega
      rw [shOp_bulk, bulk_ints] at hbx'
      obtain ⟨ae, ne, ce, rfl, ge, le, me⟩ := shOp_reads.1 hsw
      obtain ⟨ay, ny, cy, rfl, -, -, my⟩ := shRow_reads.1 hsw2
      obtain ⟨g0, u0, eg, hg1, hg2, hg3, hg4, hg5⟩ := hli.place j hjn
      cases eg
      have hC := specOpBackward_any wr.drew x.1 x.2.1 x.2.2.1 ae ne ce x.2.2.2 ay ny cy (inK m xs j) a3 n3 c3 (backK m xs ds t) ((me.ints (by rw [← me.1]; exact hbx')).le hdr.size) ge le ((my.ints (by have h1 := my.1; have h2 := HSM.out j; omega)).le hdr.size) (hd3.below (show Below wr.heap.size wr wr.drew from (Below.refl _ _).drew) (Nat.le_refl _))
      have hb1 : backK m xs ds (t + 1) = bwN x.1 x.2.1 x.2.2.1 x.2.2.2 (inK m xs j) (backK m xs ds t) := by
        show bwOp (opAt m (m.length - 1 - t)) (inK m xs (m.length - 1 - t)) (backK m xs ds t) = _
        rw [hlen, hj, opAt_get hx]
        rfl
      have hb2 : G j = bwG x.1 x.2.1 x.2.2.1 x.2.2.2 (inK m xs j) (backK m xs ds t) := by
        rw [← HG.out]
        show bwOpG (opAt m j) (inK m xs j) (backK m xs ds (m.length - 1 - j)) = _
        rw [hlen, opAt_get hx, show n - 1 - j = t by omega]
        rfl
      have hb3 : backKB m xs ds (t + 1) = (backKB m xs ds t || bwB x.1 x.2.1 x.2.2.1 x.2.2.2 (inK m xs j) (backK m xs ds t)) := by
        show (backKB m xs ds t || bwOpB (opAt m (m.length - 1 - t)) (inK m xs (m.length - 1 - t)) (backK m xs ds t)) = _
        rw [hlen, hj, opAt_get hx]
        rfl
      rw [← hb1, ← hb2] at hC
      obtain ⟨fl, hfl⟩ : ∃ q, bwB x.1 x.2.1 x.2.2.1 x.2.2.2 (inK m xs j) (backK m xs ds t) = q := ⟨_, rfl⟩
      rw [hfl] at hC hb3
      have HC := Lib.hid hC
      have HGK := Lib.hid hb3
      have HLI := Lib.hid hli
      have HBW := Lib.hid hbw
      rw [shOp_size] at hrr
      rw [shRow_size, Nat.mul_one] at hrr2
      have d0 := hrr 0 _ rfl
      have d1 := hrr 1 _ rfl
      have d2 := hrr 2 _ rfl
      have d3 := hrr 3 _ rfl
      have e0 := hrr2 0 _ rfl
      simp only [Nat.add_zero] at d0 e0
      have HJ := Lib.hid hj
      have HZ := Lib.hid hz
      have hGl : (backK m xs ds (t + 1)).length ≤ 6 := by rw [hb1]; exact bwN_length _ _ _ _ _ _
      have HGL := Lib.hid hGl
      clear hr hrr hr2 hrr2 hs hs2 hsw hsw2 me my hx hbx' hb1 hb2 hb3 hfl hC hbB1 hbB2 hdr hli hbw hd3 hj hz hg3 hg4 hg5 hGl
      go_upto_region 6 with fail
      go_cut [12, 13, 14] (fun d u s wx => s = .bool fl ∧ Row wr.heap.size wx d (backK m xs ds (t + 1)) ∧ Row wr.heap.size wx u (G j) ∧ Below wr.heap.size wr wx)
      case first =>
        go_region_law (first
          | (go_simp; go_at_call 176; (with_reducible refine HC.out.mono ?_); rintro e wt ⟨v', u', rfl, hr, hr', -, hb⟩; have HR := Lib.hid hr; have HR' := Lib.hid hr'; have HBT := Lib.hid hb; clear hr hr' hb))
        all_goals
          go_wp2_with fail
          go_meet
          case rel => exact ⟨rfl, HR.out, HR'.out, ((Below.refl wr.heap.size wr).drew).trans HBT.out⟩
      case rest =>
        obtain ⟨rfl, hr, hr', hb⟩ := hcut
        obtain ⟨w4, rfl⟩ : ∃ W, W = wc := ⟨_, rfl⟩
        obtain ⟨D, hD⟩ : ∃ u, u = backK m xs ds (t + 1) := ⟨_, rfl⟩
        rw [← hD] at hr
        obtain ⟨u2, hu2⟩ : ∃ u, u = G j := ⟨_, rfl⟩
        rw [← hu2] at hr'
        obtain ⟨a5, c5, rfl, hi5⟩ := hr.form
        obtain ⟨a6, c6, rfl, -⟩ := hr'.form
        obtain ⟨n5, hn5⟩ : ∃ q, D.length = q := ⟨_, rfl⟩
        obtain ⟨n6, hn6⟩ : ∃ q, u2.length = q := ⟨_, rfl⟩
        have hl2 := HLI.out.below hb (Nat.le_refl _)
        obtain ⟨g0, u0, eg, hg1', hg2', hg3, hg4, hg5⟩ := hl2.place j hjn
        cases eg
        rw [hn5] at hr ⊢
        rw [hn6] at hr' ⊢
        have hset := hl2.set (es := [.slice a6 n6 c6]) (x := u2) (F := FromB wr.heap.size w4.heap.size) (j := j) (by rw [← hg5]; exact hjn) hg5 (Row.ownRow hr') (fun b o f => f)
        have hset1 : ListL ownRow 56 w.heap.size w4.heap.size (w4.setCell ⟨w.heap.size, j, none⟩ (.slice a6 n6 c6)) (.slice (some ⟨w.heap.size, 0, none⟩) n n) (listK (fun j => if j < n - (t + 1) then [] else G j) n) := by
          have e := hset.1
          rw [listK_set _ _ _ _ hjn, ownRow_size, Nat.mul_one, hu2] at e
          have ec : listK (fun i => if i = j then G j else if i < n - t then [] else G i) n = listK (fun j => if j < n - (t + 1) then [] else G j) n := listK_congr fun i hi => by
            have hjj := HJ.out
            by_cases e1 : i = j
            · subst e1
              rw [if_pos rfl, if_neg (by omega)]
            · rw [if_neg e1]
              by_cases e2 : i < n - t
              · rw [if_pos e2, if_pos (by omega)]
              · rw [if_neg e2, if_neg (by omega)]
          rw [ec] at e
          exact e
        have hB4 := (HBW.out.trans (hb.mono hsz)).setCell (p := ⟨w.heap.size, j, none⟩) (Nat.le_refl _) (.slice a6 n6 c6)
        have hrs := hr.setBelow (a := ⟨w.heap.size, j, none⟩) (by show w.heap.size < wr.heap.size; exact hg2) (.slice a6 n6 c6)
        obtain ⟨a7, c7, e7, hi7⟩ := hrs.form
        rw [hn5] at e7
        cases e7
        have hi8 := hi7 (by have := HGL.out; rw [← hD] at this; omega)
        rw [hn5] at hi8
        have HS1 := Lib.hid hset1
        have HS2 := Lib.hid hB4
        have HS3 := Lib.hid hi8
        have HDD := Lib.hid hD
        clear d0 d1 d2 d3 e0 hb hr hr' hrs hset hset1 hB4 hl2 HLI HC hi5 hi7 hi8 hD hu2 hg5 hn5 hn6
        cases q
        all_goals
          go_wp2_with fail
          go_roundw
          case rel => exact ⟨t + 1, a5, n5, c5, _, by omega, congrArg (Value.int .i64) HT1.out, rfl, by rw [← HDD.out]; simpa using HS3.out, rfl, Lib.hid (by rw [HGK.out, ← ho.out] <;> rfl), by simpa using HS1.out, HS2.out⟩
          case measure =>
            have h1 := HZ.out
            simp [intOf]
            try omega
    · obtain rfl : t = n := by omega
      have hz : (t : Int) - 1 - (t : Nat) = -1 := by omega
      rw [hz]
      have hfin : listK (fun j => if j < t - t then [] else G j) t = gradsN m xs ds := by
        unfold gradsN
        rw [hlen, HG.out]
        exact listK_congr fun j hj => if_neg (by omega)
      rw [hfin] at hli
      have HLI := Lib.hid hli
      have HBW := Lib.hid hbw
      clear hli hbw hd3 hz hfin
      go_wp2_with fail
      go_ret3
      exact ⟨_, _, by rw [← ho.out] <;> rfl, HLI.out, HBW.out⟩
end Go.Proofs.YtpnifgpmleaohaaGreatDoor
