import Derived.Test.YtpnifgpmleaohaaGreatDoorJoin35
import Derived.Deep.RegionLaw
import Derived.Test.YtpnifgpmleaohaaGreatDoorJoin14
import Derived.Test.YtpnifgpmleaohaaGreatDoorJoin18
/-! YtpnifgpmleaohaaGreatDoorZSeqQ -/
section

namespace Go.Proofs.YtpnifgpmleaohaaGreatDoor
open Go.RowKit Go.Sort
set_option linter.unusedVariables false

theorem set3_other {w : World} {g b : Nat} (x y z : Value) (h : b ≠ g) : (((w.setCell ⟨g, 0, none⟩ x).setCell ⟨g, 1, none⟩ y).setCell ⟨g, 2, none⟩ z).heap[b]? = w.heap[b]? :=
  (heap_setCell_other _ _ _ _ h).trans ((heap_setCell_other _ _ _ _ h).trans (heap_setCell_other _ _ _ _ h))
theorem set3_size {w : World} {g : Nat} (x y z : Value) : (((w.setCell ⟨g, 0, none⟩ x).setCell ⟨g, 1, none⟩ y).setCell ⟨g, 2, none⟩ z).heap.size = w.heap.size := by simp
theorem set3_below {B g : Nat} {w w' : World} (h : Below B w w') (hg : B ≤ g) (x y z : Value) : Below B w (((w'.setCell ⟨g, 0, none⟩ x).setCell ⟨g, 1, none⟩ y).setCell ⟨g, 2, none⟩ z) :=
  ((h.setCell (p := ⟨g, 0, none⟩) hg x).setCell (p := ⟨g, 1, none⟩) hg y).setCell (p := ⟨g, 2, none⟩) hg z
end Go.Proofs.YtpnifgpmleaohaaGreatDoor

end

/-! YtpnifgpmleaohaaGreatDoorZSeqJ -/
section

namespace Go.Proofs.YtpnifgpmleaohaaGreatDoor
open Go.RowKit Go.Sort
set_option linter.unusedVariables false

theorem zeroRows_good (m : List dOp) : zeroRows m = listK (fun j => noughts (opAt (goodN m) j).2.2.2.length) (goodN m).length := by
  unfold zeroRows goodN
  cases modelOkB m <;> rfl
def GoodIn (B : Nat) (w : World) (m : List dOp) (e : Ending) (w' : World) : Prop := ∃ (a : Option Addr) (n c : Nat), e = .returned (.agg #[.slice a n c]) ∧ ListAt shOp (Under B) w a n (goodN m) ∧ n ≤ c ∧ c ≤ 9223372036854775807 ∧ Below w.heap.size w w'
set_option maxRecDepth 100000 in
set_option maxHeartbeats 3200000 in
/-- modelOf hands back what it was handed, or nothing. -/
theorem implModelOf_b (w : World) (B : Nat) (hB : B ≤ w.heap.size) (a : Option Addr) (n c : Nat) (m : List dOp) (h : ListAt shOp (Under B) w a n m) (hc1 : n ≤ c) (hc2 : c ≤ 9223372036854775807) (hb : (Shape.list shOp).bulk m ≤ 1048576) :
    Calls Tryz.prog 90 #[.agg #[.slice a n c]] w fun e w' => GoodIn B w m e w' := by
  have hal : Below w.heap.size w ((w.alloc (.cells #[.slice a n c] 50 (0, 0))).alloc (.cells #[.slice none 0 0] 132 (0, 0))) := ((Below.refl _ _).alloc (Nat.le_refl _) _).alloc (by simp) _
  have hs0 : w.heap.size + 1 < ((w.alloc (.cells #[.slice a n c] 50 (0, 0))).alloc (.cells #[.slice none 0 0] 132 (0, 0))).heap.size := by simp
  have HLI := Lib.hid (implLinked_c _ a n c m (((h.le hB).below hal (Nat.le_refl _)).le hal.size) hb)
  have HL := Lib.hid h
  have hlen := h.1
  have HA := Lib.hid hal
  clear h hb hal
  by_cases h8 : 8 < n
  · have hg : decide ((n : Int) > 8) = true := decide_eq_true (by omega)
    have HE := Lib.hid (goodN_big (by rw [hlen]; exact h8))
    go_enter Tryz.func90, Tryz.ntmps90
    go_wp2_with fail
    refine bodyPost_ret (results_cell_row rfl _ _ (w.heap.size + 1) 132 #[.slice none 0 0] (0, 0) _ rfl ?_ Tryz.underlying132 rfl (by kernel_rfl)) rfl ?_
    · have := heap_alloc_new (w.alloc (.cells #[.slice a n c] 50 (0, 0))) (.cells #[.slice none 0 0] 132 (0, 0))
      simpa using this
    exact ⟨none, 0, 0, rfl, by rw [HE.out]; exact noList _ _, Nat.le_refl _, by omega, HA.out⟩
  · have hg : decide ((n : Int) > 8) = false := decide_eq_false (by omega)
    have hz := heap_alloc_new (w.alloc (.cells #[.slice a n c] 50 (0, 0))) (.cells #[.slice none 0 0] 132 (0, 0))
    rw [size_one] at hz
    cases hp : linkedB m with
    | false =>
      rw [hp] at HLI
      have HE := Lib.hid (goodN_bad hp)
      clear hp
      go_enter Tryz.func90, Tryz.ntmps90
      go_wp2_with fail
      refine HLI.out.mono ?_
      rintro e w1 ⟨rfl, hb⟩
      have HZ := Lib.hid ((hb.block _ hs0).trans hz)
      have HB := Lib.hid (HA.out.trans (hb.mono HA.out.size))
      have zb : w1.cell? ⟨w.heap.size + 1, 0, none⟩ = _ := cell_of_row _ _ _ _ _ _ HZ.out
      have fb : w1.frozen? ⟨w.heap.size + 1, 0, none⟩ = false := frozen_of_row _ _ _ _ _ HZ.out
      simp only [List.getElem?_toArray, List.getElem?_cons_zero] at zb
      clear hb hz
      go_wp2_with fail
      refine bodyPost_ret (results_cell_row rfl _ _ (w.heap.size + 1) 132 #[.slice none 0 0] (0, 0) _ rfl ?_ Tryz.underlying132 rfl (by kernel_rfl)) rfl ?_
      · simpa using heap_setCell_same w1 (w.heap.size + 1) 0 _ _ (.slice none 0 0) HZ.out
      exact ⟨none, 0, 0, rfl, by rw [HE.out]; exact noList _ _, Nat.le_refl _, by omega, HB.out.setCell (p := ⟨w.heap.size + 1, 0, none⟩) (by show w.heap.size ≤ w.heap.size + 1; omega) _⟩
    | true =>
      rw [hp] at HLI
      have HE := Lib.hid (goodN_good hp (by omega))
      clear hp
      go_enter Tryz.func90, Tryz.ntmps90
      go_wp2_with fail
      refine HLI.out.mono ?_
      rintro e w1 ⟨rfl, hb⟩
      have HZ := Lib.hid ((hb.block _ hs0).trans hz)
      have HB := Lib.hid (HA.out.trans (hb.mono HA.out.size))
      have zb : w1.cell? ⟨w.heap.size + 1, 0, none⟩ = _ := cell_of_row _ _ _ _ _ _ HZ.out
      have fb : w1.frozen? ⟨w.heap.size + 1, 0, none⟩ = false := frozen_of_row _ _ _ _ _ HZ.out
      simp only [List.getElem?_toArray, List.getElem?_cons_zero] at zb
      clear hb hz
      go_wp2_with fail
      refine bodyPost_ret (results_cell_row rfl _ _ (w.heap.size + 1) 132 #[.slice a n c] (0, 0) _ rfl ?_ Tryz.underlying132 rfl (by kernel_rfl)) rfl ?_
      · simpa using heap_setCell_same w1 (w.heap.size + 1) 0 _ _ (.slice a n c) HZ.out
      exact ⟨a, n, c, rfl, by rw [HE.out]; exact HL.out, hc1, hc2, HB.out.setCell (p := ⟨w.heap.size + 1, 0, none⟩) (by show w.heap.size ≤ w.heap.size + 1; omega) _⟩
set_option maxRecDepth 100000 in
set_option maxHeartbeats 6400000 in
theorem implZeroGrads_o (w : World) (es : List Value) (m : dModel) (h : shModel.reads (Under w.heap.size) w es m) (hb : shModel.bulk m ≤ 1048576) :
    Calls Tryz.prog 23 #[.agg es.toArray] w fun e w' => ∃ es', e = .returned (.agg es'.toArray) ∧ ownGrads.owns (FromB w.heap.size w'.heap.size) w' es' (zeroG m) ∧ Below w.heap.size w w' := by
  obtain ⟨a, n, c, rfl, hc1, hc2, hl⟩ := shModel_reads.1 h
  obtain ⟨i0, hi, hz0, hz1, hz2⟩ := info_parts infoRow1
  have hbx := Boxes.start w #[.slice a n c] #[.slice none 0 0, .int .i64 0, .bool false] #[.slice none 0 0, .int .i64 0, .bool false] 50 30
  have HM := Lib.hid fun (w1 : World) (hb1 : Below w.heap.size w w1) => implModelOf_b w1 w.heap.size hb1.size a n c m (hl.below hb1 (Nat.le_refl _)) hc1 hc2 hb
  have HBX := Lib.hid hbx
  have hsm : ∀ j, j < (goodN m).length → (opAt (goodN m) j).2.2.2.length ≤ 36 := fun j hj => by
    cases hq : modelOkB m with
    | false => rw [goodN_no hq] at hj; exact absurd hj (by simp)
    | true => rw [goodN_yes hq] at hj ⊢; exact modelOk_small hq j hj
  have h8 := (goodN_le m).1
  obtain ⟨g, hgg⟩ : ∃ g, goodN m = g := ⟨_, rfl⟩
  obtain ⟨f, hf⟩ : ∃ f : Nat → List Int, f = fun j => noughts (opAt g j).2.2.2.length := ⟨_, rfl⟩
  have hz : zeroRows m = listK f g.length := by rw [zeroRows_good, hgg, hf]
  rw [hgg] at hsm h8
  have HSM := Lib.hid hsm
  have HF := Lib.hid hf
  have HZ := Lib.hid hz
  have HGG := Lib.hid hgg
  clear h hl hbx hb hsm hf hz hgg
  go_enter Tryz.func23, Tryz.ntmps23
  go_wp2_with fail
  generalize ((w.alloc (.cells #[.slice a n c] 50 (0, 0))).alloc (.cells #[.slice none 0 0, .int .i64 0, .bool false] 30 (0, 0))).alloc (.cells #[.slice none 0 0, .int .i64 0, .bool false] 30 (0, 0)) = wa at HBX ⊢
  refine (HM.out wa HBX.out.below).mono ?_
  rintro e wb ⟨ag, ng, cg, rfl, hl, hg1, hg2, hbm⟩
  have hbx := HBX.out.call hbm
  rw [HGG.out] at hl
  have hlen := hl.1
  have hl' := hl.below hbm HBX.out.below.size
  have HL := Lib.hid hl'
  have HB0 := Lib.hid hbx
  have hfd : ∀ w : World, (Instr.field 132 (.agg #[.slice ag ng cg]) 0).run Tryz.prog w = .ok (.slice ag ng cg) w := fun w => field_model ag ng cg w
  clear hl hl' hbm hbx
  go_wp2_with fail
  go_loopw [10] (fun i wr => ∃ (k : Nat) (v : Value), k ≤ ng ∧ i = .int .i64 k ∧ Boxes w wr #[.slice a n c] #[.slice none 0 0, .int .i64 0, .bool false] #[v, .int .i64 0, .bool false] 50 30 ∧ Below w.heap.size wb wr ∧ ListL ownRow 56 (w.heap.size + 3) wr.heap.size wr v (listK f k)) (fun i _ => ng - (intOf i).toNat)
  case atStart => exact ⟨0, .slice none 0 0, Nat.zero_le _, rfl, HB0.out, Below.refl _ _, ListL.nil _ _ (Nat.le_refl _)⟩
  case round =>
    obtain ⟨k, v, hk, rfl, hbo, hbw, hli⟩ := hrel
    obtain ⟨av, cv, rfl, -, -⟩ := hli.form
    have hkl := listK_length f k
    rw [hkl] at hbo hli
    have hsz3 := hbo.size
    have HBO := Lib.hid hbo
    have HLI := Lib.hid hli
    have HBW := Lib.hid hbw
    by_cases hlt : k < ng
    · obtain ⟨x, hx⟩ : ∃ x, g[k]? = some x := ⟨_, List.getElem?_eq_getElem (by rw [hlen]; exact hlt)⟩
      obtain ⟨b, o, es, rfl, hbB, hr, hs⟩ := HL.out.2 k x hx
      obtain ⟨ae, ne, ce, rfl, ge, le, me⟩ := shOp_reads.1 hs
      have hne : ne ≤ 36 := by
        have e1 := HSM.out k (by rw [hlen]; exact hlt)
        rw [opAt_get hx] at e1
        have e2 := me.1
        omega
      have hfk : f k = noughts ne := by
        rw [HF.out]
        show noughts (opAt g k).2.2.2.length = _
        rw [opAt_get hx]
        exact congrArg noughts me.1
      have HFK := Lib.hid hfk
      have hrr := rangeAt_kept hr (show b < w.heap.size from hbB) (Kept.of_below (I := Under w.heap.size) hbw fun b hb => hb)
      rw [shOp_size] at hrr
      have c0 := hrr 0 _ rfl
      have c1 := hrr 1 _ rfl
      have c2 := hrr 2 _ rfl
      have c3 := hrr 3 _ rfl
      simp only [Nat.add_zero] at c0
      have hq := (Below.refl wr.heap.size wr).alloc (Nat.le_refl _) (.cells #[.int .i64 x.1, .int .i64 x.2.1, .int .i64 x.2.2.1, .slice ae ne ce] 38 (0, 0))
      have hqn := heap_alloc_new wr (.cells #[.int .i64 x.1, .int .i64 x.2.1, .int .i64 x.2.2.1, .slice ae ne ce] 38 (0, 0))
      have hqs : (wr.alloc (.cells #[.int .i64 x.1, .int .i64 x.2.1, .int .i64 x.2.2.1, .slice ae ne ce] 38 (0, 0))).heap.size = wr.heap.size + 1 := by simp
      clear hr hrr hs hx hfk hbB hbo hbw hli
      go_upto_region 5 with fail
      generalize wr.alloc (.cells #[.int .i64 x.1, .int .i64 x.2.1, .int .i64 x.2.2.1, .slice ae ne ce] 38 (0, 0)) = w1 at hq hqn hqs ⊢
      have hbo := HBO.out.call hq
      have hli := HLI.out.below hq (Nat.le_refl _)
      have hsz4 := hbo.size
      have HB1 := Lib.hid hbo
      have HW1 := Lib.hid (HBW.out.trans (hq.mono (by omega)))
      obtain ⟨⟨d0, d1, d2⟩, f0, f1, f2⟩ := cellsG hbo.o
      have p3 : w1.cell? ⟨wr.heap.size, 3, none⟩ = some (.slice ae ne ce) := by rw [cell_of_row _ _ _ _ _ _ hqn]; rfl
      clear hq hqn hqs
      have hmk := run_make_many (P := Tryz.prog) 28 3 _ 1 8 Tryz.underlying28 Tryz.infoI64 ne (by omega) (by omega)
      have hm1 : Below w1.heap.size w1 (w1.alloc (.cells (madeCells #[.int .i64 0] ne) 3 (0, 0))).drew := ((Below.refl _ _).alloc (Nat.le_refl _) _).drew
      have hl2 := (hli.below hm1 (Nat.le_trans hli.top (Nat.le_refl _)) : ListL ownRow 56 (w.heap.size + 3) wr.heap.size (w1.alloc (.cells (madeCells #[.int .i64 0] ne) 3 (0, 0))).drew (.slice av k cv) (listK f k)).wide (hi' := w1.heap.size) (Nat.le_refl _) hli.top hm1.size
      obtain ⟨us, G, h1, h2, h3, h4, h5⟩ := hl2.all
      have hP : Hid (∀ (w4 : World) (g cap : Nat), w4.ownsRow (w.heap.size + 3) 56 1 (.slice (some ⟨g, 0, none⟩) (k + 1) cap) (k + 1) (us ++ [.slice (some ⟨w1.heap.size, 0, none⟩) ne ne]) → ((w1.alloc (.cells (madeCells #[.int .i64 0] ne) 3 (0, 0))).alloc (.cells #[.slice (some ⟨w1.heap.size, 0, none⟩) ne ne] 56 (0, 0))).drew.grownBy w4 (Value.slice av k cv).ownBlock →
          ((Value.slice av k cv).ownBlock = some g ∨ g = ((w1.alloc (.cells (madeCells #[.int .i64 0] ne) 3 (0, 0))).alloc (.cells #[.slice (some ⟨w1.heap.size, 0, none⟩) ne ne] 56 (0, 0))).drew.heap.size) → ListL ownRow 56 (w.heap.size + 3) w4.heap.size w4 (.slice (some ⟨g, 0, none⟩) (k + 1) cap) (listK f (k + 1)) ∧ Below (w.heap.size + 3) w1 w4) := Lib.hid fun w4 g cap ho hgr hat => by
        have hp := ListL.put (S := ownRow) (T := 56) (lo := w.heap.size + 3) (hi := w1.heap.size) (w := (w1.alloc (.cells (madeCells #[.int .i64 0] ne) 3 (0, 0))).drew) (w' := w4) (v := .slice av k cv) (v' := .slice (some ⟨g, 0, none⟩) (k + 1) cap) (xs := listK f k) (o := (.cells #[.slice (some ⟨w1.heap.size, 0, none⟩) ne ne] 56 (0, 0))) (x := noughts ne) (F := FromB w1.heap.size (w1.alloc (.cells (madeCells #[.int .i64 0] ne) 3 (0, 0))).heap.size)
          hsz4 h1 h2 hm1.size h3 h4 h5 (Row.ownRow (Row.made w1 ne (by omega))) (fun b o f => f) rfl (by rw [hkl]; exact ho) hgr (by
            rcases hat with e | e
            · exact .inl e.symm
            · exact .inr (congrArg some e))
        rw [← HFK.out] at hp
        exact ⟨hp.1, (hm1.mono hsz4).trans hp.2⟩
      rw [hkl] at h1
      have HRD : Hid (((w1.alloc (.cells (madeCells #[.int .i64 0] ne) 3 (0, 0))).alloc (.cells #[.slice (some ⟨w1.heap.size, 0, none⟩) ne ne] 56 (0, 0))).drew.ownsRow (w.heap.size + 3) 56 1 (.slice av k cv) k us) := Lib.hid (World.ownsRow.alloc (show (w1.alloc (.cells (madeCells #[.int .i64 0] ne) 3 (0, 0))).drew.ownsRow _ _ _ _ _ _ from h1) _)
      have HND : Hid (∀ j u, ([Value.slice (some ⟨w1.heap.size, 0, none⟩) ne ne] : List Value)[j]? = some u → ((w1.alloc (.cells (madeCells #[.int .i64 0] ne) 3 (0, 0))).alloc (.cells #[.slice (some ⟨w1.heap.size, 0, none⟩) ne ne] 56 (0, 0))).drew.cell? ((⟨w1.heap.size + 1, 0, none⟩ : Addr).add j) = some u) := Lib.hid (by
        have := heap_alloc_new (w1.alloc (.cells (madeCells #[.int .i64 0] ne) 3 (0, 0))) (.cells #[.slice (some ⟨w1.heap.size, 0, none⟩) ne ne] 56 (0, 0))
        rw [size_one'] at this
        exact World.news_of_block (w := ((w1.alloc (.cells (madeCells #[.int .i64 0] ne) 3 (0, 0))).alloc (.cells #[.slice (some ⟨w1.heap.size, 0, none⟩) ne ne] 56 (0, 0))).drew) this)
      have hm1' : Below w1.heap.size w1 (w1.alloc (.cells (madeCells #[.int .i64 0] ne) 3 (0, 0))) := (Below.refl _ _).alloc (Nat.le_refl _) _
      have hm2' : Below w1.heap.size w1 ((w1.alloc (.cells (madeCells #[.int .i64 0] ne) 3 (0, 0))).alloc (.cells #[.slice (some ⟨w1.heap.size, 0, none⟩) ne ne] 56 (0, 0))) := hm1'.alloc (by simp) _
      have dm0 := (hm1'.cell (p := ⟨w.heap.size + 1 + 1, 0, none⟩) (by show w.heap.size + 1 + 1 < _; omega)).trans d0
      have de0 := (hm2'.cell (p := ⟨w.heap.size + 1 + 1, 0, none⟩) (by show w.heap.size + 1 + 1 < _; omega)).trans d0
      have HBS : Hid (w.heap.size + 3 ≤ ((w1.alloc (.cells (madeCells #[.int .i64 0] ne) 3 (0, 0))).alloc (.cells #[.slice (some ⟨w1.heap.size, 0, none⟩) ne ne] 56 (0, 0))).drew.heap.size) := Lib.hid (by
        show _ ≤ ((w1.alloc (.cells (madeCells #[.int .i64 0] ne) 3 (0, 0))).alloc (.cells #[.slice (some ⟨w1.heap.size, 0, none⟩) ne ne] 56 (0, 0))).heap.size
        rw [size_one', size_one']
        omega)
      clear h1 h2 h3 h4 h5 hl2 hli hbo hm1 hm1' hm2' f1 f2
      go_wp2_with fail
      go_region_law (first
        | (refine step_append_lies _ rfl (.tmp 15) (.tmp 21) 27 rfl (w.heap.size + 3) 56 i0 (.agg #[.slice none 0 0]) 1 24 Tryz.underlying27 hi hz0 hz1 hz2 rfl (by decide) _ _ _ (by simp [Act.eval]) HRD.out ⟨w1.heap.size + 1, 0, none⟩ 1 1 [.slice (some ⟨w1.heap.size, 0, none⟩) ne ne] (by simp [Act.eval]) rfl HND.out (slices_one _ _ _) (by omega) (by unfold maxLen; omega) (by omega) HBS.out _ rfl ?_; intro g cap w4 hown4 hgrow4 hat4 _; obtain ⟨hli4, hb4⟩ := hP.out w4 g cap hown4 hgrow4 hat4; have hbo4 := HB1.out.far hb4; have HW4 := Lib.hid (HW1.out.trans (hb4.mono (by omega))); clear d0 d1 d2 f0 dm0 de0 hown4 hgrow4 hat4; obtain ⟨⟨d0, d1, d2⟩, f0, -, -⟩ := cellsG hbo4.o; have HLI4 := Lib.hid hli4; have HBO4 := Lib.hid hbo4; clear hli4 hbo4 hb4))
      all_goals
        go_wp2_with fail
        go_round
        case rel =>
          have hq := HBO4.out.store 0 (.slice (some ⟨g, 0, none⟩) (k + 1) cap)
          have hli := HLI4.out.stored (w.heap.size + 1 + 1) 0 (.slice (some ⟨g, 0, none⟩) (k + 1) cap) (by omega)
          exact ⟨k + 1, .slice (some ⟨g, 0, none⟩) (k + 1) cap, by omega, by go_num, by simpa using hq, by simpa using HW4.out.setCell (p := ⟨w.heap.size + 1 + 1, 0, none⟩) (by show _ ≤ w.heap.size + 1 + 1; omega) (.slice (some ⟨g, 0, none⟩) (k + 1) cap), by simpa using hli⟩
        case measure => simp [intOf]; omega
    · obtain rfl : k = ng := by omega
      obtain ⟨⟨d0, d1, d2⟩, f0, f1, f2⟩ := cellsG hbo.o
      obtain ⟨⟨z0, z1, z2⟩, y0, y1, y2⟩ := cellsG hbo.z
      clear hbo hli hbw
      go_wp2_with fail
      refine bodyPost_ret (results_cell_row rfl _ _ (w.heap.size + 1) 30 #[.slice av k cv, .int .i64 0, .bool false] (0, 0) _ rfl ?_ Tryz.underlying30 rfl (by kernel_rfl)) rfl ?_
      · exact store3 HBO.out.z _ _ _
      · refine ⟨[.slice av k cv, .int .i64 0, .bool false], rfl, ?_, ((HBO.out.below.setCell (p := ⟨w.heap.size + 1, 0, none⟩) (by show _ ≤ w.heap.size + 1; omega) _).setCell (p := ⟨w.heap.size + 1, 1, none⟩) (by show _ ≤ w.heap.size + 1; omega) _).setCell (p := ⟨w.heap.size + 1, 2, none⟩) (by show _ ≤ w.heap.size + 1; omega) _⟩
        have hfin := ((HLI.out.stored (w.heap.size + 1) 0 (.slice av k cv) (by omega)).stored (w.heap.size + 1) 1 (.int .i64 0) (by omega)).stored (w.heap.size + 1) 2 (.bool false) (by omega)
        obtain ⟨a', cap, e1, e2, e3, e4⟩ := hfin.list (by decide)
        rw [hkl] at e1 e2 e4
        cases e1
        unfold zeroG
        rw [HZ.out, hlen]
        exact ownGrads_owns.2 ⟨_, _, _, rfl, e2, e3, e4.sub (fun b o f => ⟨by have := f.1; omega, by have := f.2; simpa using this⟩)⟩
end Go.Proofs.YtpnifgpmleaohaaGreatDoor

end
