import Derived.Test.YtgnjcfbfbpjndaaGreatDoorJoin10
import Derived.Test.YtgnjcfbfbpjndaaGreatDoorJoin12
import Derived.Deep.AppendLies
import Derived.Test.YtgnjcfbfbpjndaaGreatDoorJoin11
import Derived.Deep.QuietTactic
import Derived.BigQuiet
/-! YtgnjcfbfbpjndaaGreatDoorSeqZ -/
section

namespace Go.Proofs.YtgnjcfbfbpjndaaGreatDoor
open Go.RowKit Go.Sort
set_option linter.unusedVariables false

theorem infoRow1 : (Tryz.prog.info? 41).map (fun i => (i.zero, i.size, i.bytes)) = some (some (.agg #[.slice none 0 0]), 1, 24) := by kernel_rfl
theorem Row.made (w : World) (n : Nat) (h : n ≤ 9223372036854775807) : Row w.heap.size (w.alloc (.cells (madeCells #[.int .i64 0] n) 3 (0, 0))) (.slice (some ⟨w.heap.size, 0, none⟩) n n) (noughts n) := by
  have h1 : (noughts n).length = n := by unfold noughts; rw [List.length_replicate]
  have h2 : (madeCells #[.int .i64 0] n).toList = icells (noughts n) := by
    rw [toList_madeCells_one]
    unfold icells noughts
    rw [List.map_replicate]
  have h3 := World.ownsRow_lit (base := w.heap.size) (e := 3) (size := 1) w (madeCells #[.int .i64 0] n) n (Nat.le_refl _) (by unfold maxLen; omega) (by rw [size_madeCells, Nat.mul_one])
  unfold Row
  rw [h1, ← h2]
  exact h3
theorem Row.ownRow {base : Nat} {w : World} {u : Value} {x : List Int} (h : Row base w u x) : ownRow.owns (FromB base w.heap.size) w [u] x := h.own
theorem cellsG {w : World} {g : Nat} {x y z : Value} {T : TypeId} (h : w.heap[g]? = some (.cells #[x, y, z] T (0, 0))) :
    (w.cell? ⟨g, 0, none⟩ = some x ∧ w.cell? ⟨g, 1, none⟩ = some y ∧ w.cell? ⟨g, 2, none⟩ = some z) ∧ w.frozen? ⟨g, 0, none⟩ = false ∧ w.frozen? ⟨g, 1, none⟩ = false ∧ w.frozen? ⟨g, 2, none⟩ = false :=
  ⟨⟨by rw [cell_of_row _ _ _ _ _ _ h]; rfl, by rw [cell_of_row _ _ _ _ _ _ h]; rfl, by rw [cell_of_row _ _ _ _ _ _ h]; rfl⟩, frozen_of_row _ _ _ _ _ h, frozen_of_row _ _ _ _ _ h, frozen_of_row _ _ _ _ _ h⟩
theorem ListL.stored {α : Type} {S : Owned α} {T : TypeId} {lo hi : Nat} {w : World} {v : Value} {xs : List α} (h : ListL S T lo hi w v xs) (g i : Nat) (u : Value) (hg : g < lo) : ListL S T lo hi (w.setCell ⟨g, i, none⟩ u) v xs := by
  have hb : ∀ k, lo ≤ k → (w.setCell ⟨g, i, none⟩ u).heap[k]? = w.heap[k]? := fun k hk => heap_setCell_other _ _ _ _ (by show k ≠ g; omega)
  obtain ⟨us, G, h1, h2, h3, h4, h5⟩ := h.all
  refine ⟨by simpa using h.top, us, G, ⟨h1.1, h1.2.imp id ?_⟩, h2, fun j x hx => ?_, h4, h5⟩
  · rintro ⟨k, cap, cur, rfl, e1, e2, e3⟩
    exact ⟨k, cap, cur, rfl, e1, (hb k e1).trans e2, e3⟩
  · obtain ⟨es, q1, q2⟩ := h3 j x hx
    refine ⟨es, q1, S.owns_keep q2 ((Touched.set (F := fun b _ => b = g) w g i u rfl).same fun b o f f' => ?_)⟩
    have e : b = g := f
    have := (h4 j b o f').1
    omega
theorem Boxes.far {w w1 w4 : World} {A Z O : Array Value} {TA T : TypeId} (h : Boxes w w1 A Z O TA T) (hb : Below (w.heap.size + 3) w1 w4) : Boxes w w4 A Z O TA T :=
  ⟨h.below.trans (hb.mono (by omega)), Nat.le_trans h.size hb.size, (hb.block _ (by omega)).trans h.a, (hb.block _ (by omega)).trans h.z, (hb.block _ (by omega)).trans h.o⟩
theorem size_one' (w : World) (o : Obj) : (w.alloc o).heap.size = w.heap.size + 1 := by simp
theorem slices_one (a : Option Addr) (n c : Nat) : ∀ u ∈ [Value.slice a n c], u.oneCell' = true := by
  intro u hu
  rw [List.mem_singleton.1 hu]
  rfl
set_option maxRecDepth 100000 in
set_option maxHeartbeats 6400000 in
theorem specZeroGrads_o (w : World) (es : List Value) (m : dModel) (h : shModel.reads (Under w.heap.size) w es m) (hb : shModel.bulk m ≤ 1048576) :
    Calls Tryz.prog 79 #[.agg es.toArray] w fun e w' => ∃ es', e = .returned (.agg es'.toArray) ∧ shGrads.reads (From w.heap.size w'.heap.size) w' es' (zeroG m) ∧ Below w.heap.size w w' := by
  obtain ⟨a, n, c, rfl, hc1, hc2, hl⟩ := shModel_reads.1 h
  obtain ⟨i0, hi, hz0, hz1, hz2⟩ := info_parts infoRow1
  have hlen := hl.1
  have hal : Below w.heap.size w (((w.alloc (.cells #[.slice a n c] 26 (0, 0))).alloc (.cells #[.slice none 0 0, .int .i64 0, .bool false] 32 (0, 0))).alloc (.cells #[.slice none 0 0, .int .i64 0, .bool false] 32 (0, 0))) := (((Below.refl _ _).alloc (Nat.le_refl _) _).alloc (by simp) _).alloc (by simp; omega) _
  have hbx := Boxes.start w #[.slice a n c] #[.slice none 0 0, .int .i64 0, .bool false] #[.slice none 0 0, .int .i64 0, .bool false] 26 32
  have HM := Lib.hid fun (w1 : World) (hb1 : Below w.heap.size w w1) => specModelOk_c w1 a n c m ((hl.below hb1 (Nat.le_refl _)).le hb1.size) hc1 hc2 hb
  have HL := Lib.hid hl
  have HA := Lib.hid hal
  have HBX := Lib.hid hbx
  obtain ⟨q, hq⟩ : ∃ q, modelOkB m = q := ⟨_, rfl⟩
  have HQ := Lib.hid hq
  rw [Hid] at HM
  simp only [hq] at HM
  replace HM := Lib.hid HM
  clear h hl hal hbx hq hb
  cases q
  · have hz : zeroRows m = [] := by unfold zeroRows; rw [HQ.out]; rfl
    have HZ := Lib.hid hz
    clear hz
    go_enter Tryz.func79, Tryz.ntmps79
    go_wp2_with fail
    generalize ((w.alloc (.cells #[.slice a n c] 26 (0, 0))).alloc (.cells #[.slice none 0 0, .int .i64 0, .bool false] 32 (0, 0))).alloc (.cells #[.slice none 0 0, .int .i64 0, .bool false] 32 (0, 0)) = wa at HA HBX ⊢
    go_loopw [4] (fun i wr => i = .int .i64 0 ∧ Boxes w wr #[.slice a n c] #[.slice none 0 0, .int .i64 0, .bool false] #[.slice none 0 0, .int .i64 0, .bool false] 26 32) (fun _ _ => 0)
    case atStart => exact ⟨rfl, HBX.out⟩
    case round =>
      obtain ⟨rfl, hbo⟩ := hrel
      have hba := box1 hbo.a
      have HBO := Lib.hid hbo
      have HN := Lib.hid (HM.out wr hbo.below)
      obtain ⟨⟨d0, d1, d2⟩, f0, f1, f2⟩ := cellsG hbo.o
      obtain ⟨⟨z0, z1, z2⟩, y0, y1, y2⟩ := cellsG hbo.z
      clear hbo
      by_cases hn0 : 0 < n
      · go_wp2_with fail
        refine HN.out.mono ?_
        rintro e w1 ⟨rfl, hb⟩
        have hbo := HBO.out.call hb
        have HB1 := Lib.hid hbo
        clear d0 d1 d2 f0 f1 f2 z0 z1 z2 y0 y1 y2 hba hb
        obtain ⟨⟨d0, d1, d2⟩, f0, f1, f2⟩ := cellsG hbo.o
        obtain ⟨⟨z0, z1, z2⟩, y0, y1, y2⟩ := cellsG hbo.z
        clear hbo
        go_wp2_with fail
        refine bodyPost_ret (results_cell_row rfl _ _ (w.heap.size + 1) 32 #[.slice none 0 0, .int .i64 0, .bool false] (0, 0) _ rfl ?_ Tryz.underlying32 rfl (by kernel_rfl)) rfl ?_
        · exact store3 HB1.out.z _ _ _
        · refine ⟨[.slice none 0 0, .int .i64 0, .bool false], rfl, ?_, ((HB1.out.below.setCell (p := ⟨w.heap.size + 1, 0, none⟩) (by show _ ≤ w.heap.size + 1; omega) _).setCell (p := ⟨w.heap.size + 1, 1, none⟩) (by show _ ≤ w.heap.size + 1; omega) _).setCell (p := ⟨w.heap.size + 1, 2, none⟩) (by show _ ≤ w.heap.size + 1; omega) _⟩
          unfold zeroG
          rw [HZ.out]
          exact shGrads_reads.2 ⟨none, 0, 0, rfl, Nat.le_refl _, by omega, rfl, fun j x hx => by simp at hx⟩
      · obtain rfl : n = 0 := by omega
        go_wp2_with fail
        refine bodyPost_ret (results_cell_row rfl _ _ (w.heap.size + 1) 32 #[.slice none 0 0, .int .i64 0, .bool false] (0, 0) _ rfl ?_ Tryz.underlying32 rfl (by kernel_rfl)) rfl ?_
        · exact store3 HBO.out.z _ _ _
        · refine ⟨[.slice none 0 0, .int .i64 0, .bool false], rfl, ?_, ((HBO.out.below.setCell (p := ⟨w.heap.size + 1, 0, none⟩) (by show _ ≤ w.heap.size + 1; omega) _).setCell (p := ⟨w.heap.size + 1, 1, none⟩) (by show _ ≤ w.heap.size + 1; omega) _).setCell (p := ⟨w.heap.size + 1, 2, none⟩) (by show _ ≤ w.heap.size + 1; omega) _⟩
          unfold zeroG
          rw [HZ.out]
          exact shGrads_reads.2 ⟨none, 0, 0, rfl, Nat.le_refl _, by omega, rfl, fun j x hx => by simp at hx⟩
  · have hz : zeroRows m = listK (fun j => noughts (opAt m j).2.2.2.length) n := by unfold zeroRows; rw [HQ.out, hlen]; rfl
    obtain ⟨-, hm1, hm8⟩ := modelOk_has HQ.out
    rw [hlen] at hm1 hm8
    obtain ⟨f, hf⟩ : ∃ f : Nat → List Int, f = fun j => noughts (opAt m j).2.2.2.length := ⟨_, rfl⟩
    rw [← hf] at hz
    have HF := Lib.hid hf
    have HZ := Lib.hid hz
    clear hz hf
    go_enter Tryz.func79, Tryz.ntmps79
    go_wp2_with fail
    generalize ((w.alloc (.cells #[.slice a n c] 26 (0, 0))).alloc (.cells #[.slice none 0 0, .int .i64 0, .bool false] 32 (0, 0))).alloc (.cells #[.slice none 0 0, .int .i64 0, .bool false] 32 (0, 0)) = wa at HA HBX ⊢
    go_loopw [4] (fun i wr => ∃ (k : Nat) (v : Value), k ≤ n ∧ i = .int .i64 k ∧ Boxes w wr #[.slice a n c] #[.slice none 0 0, .int .i64 0, .bool false] #[v, .int .i64 0, .bool false] 26 32 ∧ ListL ownRow 41 (w.heap.size + 3) wr.heap.size wr v (listK f k)) (fun i _ => n - (intOf i).toNat)
    case atStart => exact ⟨0, .slice none 0 0, Nat.zero_le _, rfl, HBX.out, ListL.nil _ _ (Nat.le_refl _)⟩
    case round =>
      obtain ⟨k, v, hk, rfl, hbo, hli⟩ := hrel
      obtain ⟨av, cv, rfl, -, -⟩ := hli.form
      have hkl := listK_length f k
      rw [hkl] at hbo hli
      have hsz3 := hbo.size
      have hba := box1 hbo.a
      have HBO := Lib.hid hbo
      have HLI := Lib.hid hli
      obtain ⟨⟨d0, d1, d2⟩, f0, f1, f2⟩ := cellsG hbo.o
      obtain ⟨⟨z0, z1, z2⟩, y0, y1, y2⟩ := cellsG hbo.z
      have HN := Lib.hid (HM.out wr hbo.below)
      clear hbo hli
      by_cases hlt : k < n
      · go_wp2_with fail
        refine HN.out.mono ?_
        rintro e w1 ⟨rfl, hb⟩
        have hbo := HBO.out.call hb
        have hli := HLI.out.below hb (Nat.le_refl _)
        have hsz4 := hbo.size
        have HB1 := Lib.hid hbo
        clear d0 d1 d2 f0 f1 f2 z0 z1 z2 y0 y1 y2 hba HBO HLI HN
        obtain ⟨x, hx⟩ : ∃ x, m[k]? = some x := ⟨_, List.getElem?_eq_getElem (by rw [hlen]; exact hlt)⟩
        obtain ⟨b, o, es, rfl, hbB, hr, hs⟩ := HL.out.2 k x hx
        obtain ⟨ae, ne, ce, rfl, ge, le, me⟩ := shOp_reads.1 hs
        have hne : ne ≤ 36 := by
          have e1 := modelOk_small HQ.out k (by rw [hlen]; exact hlt)
          rw [opAt_get hx] at e1
          have e2 := me.1
          omega
        have hfk : f k = noughts ne := by
          rw [HF.out]
          show noughts (opAt m k).2.2.2.length = _
          rw [opAt_get hx]
          exact congrArg noughts me.1
        have HFK := Lib.hid hfk
        have hrr := rangeAt_kept hr (show b < w.heap.size from hbB) (Kept.of_below (I := Under w.heap.size) hbo.below fun b hb => hb)
        rw [shOp_size] at hrr
        have c3 : w1.cell? ⟨b, o + k * 4 + 3, none⟩ = some (.slice ae ne ce) := hrr 3 _ rfl
        have hba := box1 hbo.a
        obtain ⟨⟨d0, d1, d2⟩, f0, f1, f2⟩ := cellsG hbo.o
        clear hr hrr hs hx hfk hbB
        have hmk := run_make_many (P := Tryz.prog) 37 3 _ 1 8 Tryz.underlying37 Tryz.infoI64 ne (by omega) (by omega)
        have hm1 : Below w1.heap.size w1 (w1.alloc (.cells (madeCells #[.int .i64 0] ne) 3 (0, 0))).drew := ((Below.refl _ _).alloc (Nat.le_refl _) _).drew
        have hl2 := (hli.below hm1 (Nat.le_trans hli.top (Nat.le_refl _)) : ListL ownRow 41 (w.heap.size + 3) wr.heap.size (w1.alloc (.cells (madeCells #[.int .i64 0] ne) 3 (0, 0))).drew (.slice av k cv) (listK f k)).wide (hi' := w1.heap.size) (Nat.le_refl _) hli.top hm1.size
        obtain ⟨us, G, h1, h2, h3, h4, h5⟩ := hl2.all
        have hP : Hid (∀ (w4 : World) (g cap : Nat), w4.ownsRow (w.heap.size + 3) 41 1 (.slice (some ⟨g, 0, none⟩) (k + 1) cap) (k + 1) (us ++ [.slice (some ⟨w1.heap.size, 0, none⟩) ne ne]) → ((w1.alloc (.cells (madeCells #[.int .i64 0] ne) 3 (0, 0))).alloc (.cells #[.slice (some ⟨w1.heap.size, 0, none⟩) ne ne] 41 (0, 0))).drew.grownBy w4 (Value.slice av k cv).ownBlock →
            ((Value.slice av k cv).ownBlock = some g ∨ g = ((w1.alloc (.cells (madeCells #[.int .i64 0] ne) 3 (0, 0))).alloc (.cells #[.slice (some ⟨w1.heap.size, 0, none⟩) ne ne] 41 (0, 0))).drew.heap.size) → ListL ownRow 41 (w.heap.size + 3) w4.heap.size w4 (.slice (some ⟨g, 0, none⟩) (k + 1) cap) (listK f (k + 1)) ∧ Below (w.heap.size + 3) w1 w4) := Lib.hid fun w4 g cap ho hgr hat => by
          have hp := ListL.put (S := ownRow) (T := 41) (lo := w.heap.size + 3) (hi := w1.heap.size) (w := (w1.alloc (.cells (madeCells #[.int .i64 0] ne) 3 (0, 0))).drew) (w' := w4) (v := .slice av k cv) (v' := .slice (some ⟨g, 0, none⟩) (k + 1) cap) (xs := listK f k) (o := (.cells #[.slice (some ⟨w1.heap.size, 0, none⟩) ne ne] 41 (0, 0))) (x := noughts ne) (F := FromB w1.heap.size (w1.alloc (.cells (madeCells #[.int .i64 0] ne) 3 (0, 0))).heap.size)
            hsz4 h1 h2 hm1.size h3 h4 h5 (Row.ownRow (Row.made w1 ne (by omega))) (fun b o f => f) rfl (by rw [hkl]; exact ho) hgr (by
              rcases hat with e | e
              · exact .inl e.symm
              · exact .inr (congrArg some e))
          rw [← HFK.out] at hp
          exact ⟨hp.1, (hm1.mono hsz4).trans hp.2⟩
        rw [hkl] at h1
        have HRD : Hid (((w1.alloc (.cells (madeCells #[.int .i64 0] ne) 3 (0, 0))).alloc (.cells #[.slice (some ⟨w1.heap.size, 0, none⟩) ne ne] 41 (0, 0))).drew.ownsRow (w.heap.size + 3) 41 1 (.slice av k cv) k us) := Lib.hid (World.ownsRow.alloc (show (w1.alloc (.cells (madeCells #[.int .i64 0] ne) 3 (0, 0))).drew.ownsRow _ _ _ _ _ _ from h1) _)
        have HND : Hid (∀ j u, ([Value.slice (some ⟨w1.heap.size, 0, none⟩) ne ne] : List Value)[j]? = some u → ((w1.alloc (.cells (madeCells #[.int .i64 0] ne) 3 (0, 0))).alloc (.cells #[.slice (some ⟨w1.heap.size, 0, none⟩) ne ne] 41 (0, 0))).drew.cell? ((⟨w1.heap.size + 1, 0, none⟩ : Addr).add j) = some u) := Lib.hid (by
          have := heap_alloc_new (w1.alloc (.cells (madeCells #[.int .i64 0] ne) 3 (0, 0))) (.cells #[.slice (some ⟨w1.heap.size, 0, none⟩) ne ne] 41 (0, 0))
          rw [size_one'] at this
          exact World.news_of_block (w := ((w1.alloc (.cells (madeCells #[.int .i64 0] ne) 3 (0, 0))).alloc (.cells #[.slice (some ⟨w1.heap.size, 0, none⟩) ne ne] 41 (0, 0))).drew) this)
        have hm1' : Below w1.heap.size w1 (w1.alloc (.cells (madeCells #[.int .i64 0] ne) 3 (0, 0))) := (Below.refl _ _).alloc (Nat.le_refl _) _
        have hm2' : Below w1.heap.size w1 ((w1.alloc (.cells (madeCells #[.int .i64 0] ne) 3 (0, 0))).alloc (.cells #[.slice (some ⟨w1.heap.size, 0, none⟩) ne ne] 41 (0, 0))) := hm1'.alloc (by simp) _
        have dm0 := (hm1'.cell (p := ⟨w.heap.size + 1 + 1, 0, none⟩) (by show w.heap.size + 1 + 1 < _; omega)).trans d0
        have de0 := (hm2'.cell (p := ⟨w.heap.size + 1 + 1, 0, none⟩) (by show w.heap.size + 1 + 1 < _; omega)).trans d0
        have HBS : Hid (w.heap.size + 3 ≤ ((w1.alloc (.cells (madeCells #[.int .i64 0] ne) 3 (0, 0))).alloc (.cells #[.slice (some ⟨w1.heap.size, 0, none⟩) ne ne] 41 (0, 0))).drew.heap.size) := Lib.hid (by
          show _ ≤ ((w1.alloc (.cells (madeCells #[.int .i64 0] ne) 3 (0, 0))).alloc (.cells #[.slice (some ⟨w1.heap.size, 0, none⟩) ne ne] 41 (0, 0))).heap.size
          rw [size_one', size_one']
          omega)
        clear h1 h2 h3 h4 h5 hl2 hli hbo hm1 hm1' hm2' f1 f2
        go_wp2_with fail
        go_region_law (first
          | (refine step_append_lies _ rfl (.tmp 18) (.tmp 28) 30 rfl (w.heap.size + 3) 41 i0 (.agg #[.slice none 0 0]) 1 24 Tryz.underlying30 hi hz0 hz1 hz2 rfl (by decide) _ _ _ (by simp [Act.eval]) HRD.out ⟨w1.heap.size + 1, 0, none⟩ 1 1 [.slice (some ⟨w1.heap.size, 0, none⟩) ne ne] (by simp [Act.eval]) rfl HND.out (slices_one _ _ _) (by omega) (by unfold maxLen; omega) (by omega) HBS.out _ rfl ?_; intro g cap w4 hown4 hgrow4 hat4 _; obtain ⟨hli4, hb4⟩ := hP.out w4 g cap hown4 hgrow4 hat4; have hbo4 := HB1.out.far hb4; clear d0 d1 d2 f0 dm0 de0 hown4 hgrow4 hat4; obtain ⟨⟨d0, d1, d2⟩, f0, -, -⟩ := cellsG hbo4.o; have HLI4 := Lib.hid hli4; have HBO4 := Lib.hid hbo4; clear hli4 hbo4 hb4))
        all_goals
          go_wp2_with fail
          go_round
          case rel =>
            have hq := HBO4.out.store 0 (.slice (some ⟨g, 0, none⟩) (k + 1) cap)
            have hli := HLI4.out.stored (w.heap.size + 1 + 1) 0 (.slice (some ⟨g, 0, none⟩) (k + 1) cap) (by omega)
            exact ⟨k + 1, .slice (some ⟨g, 0, none⟩) (k + 1) cap, by omega, by go_num, by simpa using hq, by simpa using hli⟩
          case measure => simp [intOf]; omega
      · obtain rfl : k = n := by omega
        go_wp2_with fail
        refine bodyPost_ret (results_cell_row rfl _ _ (w.heap.size + 1) 32 #[.slice av k cv, .int .i64 0, .bool false] (0, 0) _ rfl ?_ Tryz.underlying32 rfl (by kernel_rfl)) rfl ?_
        · exact store3 HBO.out.z _ _ _
        · refine ⟨[.slice av k cv, .int .i64 0, .bool false], rfl, ?_, ((HBO.out.below.setCell (p := ⟨w.heap.size + 1, 0, none⟩) (by show _ ≤ w.heap.size + 1; omega) _).setCell (p := ⟨w.heap.size + 1, 1, none⟩) (by show _ ≤ w.heap.size + 1; omega) _).setCell (p := ⟨w.heap.size + 1, 2, none⟩) (by show _ ≤ w.heap.size + 1; omega) _⟩
          have hfin := ((HLI.out.stored (w.heap.size + 1) 0 (.slice av k cv) (by omega)).stored (w.heap.size + 1) 1 (.int .i64 0) (by omega)).stored (w.heap.size + 1) 2 (.bool false) (by omega)
          obtain ⟨a', cap, e1, e2, e3, e4⟩ := hfin.list (by decide)
          rw [hkl] at e1 e2 e4
          cases e1
          unfold zeroG
          rw [HZ.out]
          exact shGrads_reads.2 ⟨_, _, _, rfl, e2, e3, e4.listAt (fun b o f => ⟨by have := f.1; omega, by have := f.2; simpa using this⟩) (by decide)⟩
end Go.Proofs.YtgnjcfbfbpjndaaGreatDoor

end

/-! YtgnjcfbfbpjndaaGreatDoorSeqI -/
section

namespace Go.Proofs.YtgnjcfbfbpjndaaGreatDoor
open Go.RowKit Go.Sort
set_option linter.unusedVariables false

/-- A list of one row. -/
theorem ListL.one {base : Nat} {w : World} {u : Value} {x : List Int} (h : Row base w u x) (hb : base ≤ w.heap.size) :
    ListL ownRow 41 base (w.alloc (.cells #[u] 41 (0, 0))).heap.size (w.alloc (.cells #[u] 41 (0, 0))) (.slice (some ⟨w.heap.size, 0, none⟩) 1 1) [x] := by
  have hk := Row.below h ((Below.refl w.heap.size w).alloc (Nat.le_refl _) (.cells #[u] 41 (0, 0)))
  have ho := Row.ownRow h
  refine ⟨Nat.le_refl _, [u], fun j => if j = 0 then FromB base w.heap.size else fun _ _ => False, World.ownsRow_lit (base := base) (e := 41) (size := 1) w #[u] 1 hb (by unfold maxLen; omega) rfl, fun g hg => ?_, fun j y hy => ?_, fun j b o f => ?_, fun j j' hne b o f f' => ?_⟩
  · have e : w.heap.size = g := by simpa [Value.ownBlock] using hg
    rw [size_one']
    omega
  · cases j with
    | zero =>
      simp at hy
      subst hy
      refine ⟨[u], fun i v hv => by simpa using hv, ?_⟩
      simp only [if_true]
      exact ownRow.owns_keep ho (.of_below ((Below.refl w.heap.size w).alloc (Nat.le_refl _) _) fun b o f => f.2)
    | succ j => simp at hy
  · by_cases hj : j = 0
    · simp only [if_pos hj] at f
      refine ⟨f.1, by rw [size_one']; have := f.2; omega, fun e => ?_⟩
      have e' : w.heap.size = b := by simpa [Value.ownBlock] using e
      have := f.2
      omega
    · simp only [if_neg hj] at f
  · by_cases hj : j = 0
    · by_cases hj' : j' = 0
      · omega
      · simp only [if_neg hj'] at f'
    · simp only [if_neg hj] at f
theorem ownRow_reads {F : Foot} {w : World} {es : List Value} {x : List Int} {B : Nat} (h : ownRow.owns F w es x) (hF : ∀ b o, F b o → b < B) (hb : x.length ≤ 1048576) : ∃ a n c, es = [.slice a n c] ∧ IntsIn B w a n x := by
  obtain ⟨a, n, c, rfl, -, -, hl⟩ := h
  refine ⟨a, n, c, rfl, ?_⟩
  have := (hl.listAt (I := Under B) (fun b o f => hF b o f) (by decide)).ints (by have := hl.1; omega)
  exact this
/-- One row of a list that a call has made: its cell, its numbers. -/
theorem ListL.at {T : TypeId} {lo hi : Nat} {w : World} {a : Option Addr} {n c : Nat} {xs : List dRow} (h : ListL ownRow T lo hi w (.slice a n c) xs) (j : Nat) (x : dRow) (hx : xs[j]? = some x) (hb : x.length ≤ 1048576) :
    ∃ g ax nx cx, a = some ⟨g, 0, none⟩ ∧ j < n ∧ lo ≤ g ∧ g < hi ∧ w.cell? ⟨g, j, none⟩ = some (.slice ax nx cx) ∧ IntsIn hi w ax nx x := by
  obtain ⟨us, G, h1, h2, h3, h4, h5⟩ := h.all
  have hj := (List.getElem?_eq_some_iff.1 hx).1
  obtain ⟨es, q1, q2⟩ := h3 j x hx
  obtain ⟨ax, nx, cx, rfl, hi'⟩ := ownRow_reads q2 (fun b o f => (h4 j b o f).2.1) hb
  have h1' := h1
  rcases h1.2 with ⟨e, hn⟩ | ⟨g, cap, cur, e, e1, e2, e3, e4, -⟩
  · omega
  · cases e
    refine ⟨g, ax, nx, cx, rfl, hj, e1, h2 g rfl, ?_, hi'⟩
    rw [World.ownsRow.cellAt h1' j (by show j < xs.length * 1; omega)]
    have := q1 0 _ rfl
    simpa [ownRow_size] using this
set_option maxRecDepth 100000 in
set_option maxHeartbeats 6400000 in
theorem specL7Inputs_any (w : World) (a : Option Addr) (n c : Nat) (m : List dOp) (h : ListAt shOp (Under w.heap.size) w a n m) (hb : (Shape.list shOp).bulk m ≤ 1048576) (ax : Option Addr) (nx cx : Nat) (xs : List Int) (hx : IntsIn w.heap.size w ax nx xs) (h1 : 1 ≤ nx) (h6 : nx ≤ 6) :
    Calls Tryz.prog 66 #[.slice a n c, .slice ax nx cx] w fun e w' => ∃ v, e = .returned (.tuple #[v, .bool (inKB m xs n)]) ∧ ListL ownRow 41 w.heap.size w'.heap.size w' v (listK (inK m xs) (n + 1)) ∧ Below w.heap.size w w' := by
  obtain ⟨i0, hi, hz0, hz1, hz2⟩ := info_parts Tryz.infoI64
  obtain ⟨j0, hj, hy0, hy1, hy2⟩ := info_parts infoRow1
  have hlen := h.1
  rw [bulk_list _ h] at hb
  have hn1 : n ≤ 1048576 := by omega
  obtain ⟨b, p, rfl, hbB, -⟩ := hx.cells 0 (by omega)
  have HL := Lib.hid h
  have HB := Lib.hid hb
  have HX := Lib.hid hx
  have hlx := hx.len
  have hsm : ∀ k, (inK m xs k).length ≤ 6 := fun k => by
    cases k with
    | zero => show xs.length ≤ 6; omega
    | succ k => exact fwOp_length _ _
  have HSM := Lib.hid hsm
  clear h hb hx hsm
  go_enter Tryz.func66, Tryz.ntmps66
  go_wp2_with (at_builtin; refine wpList_append_own _ rfl _ _ 37 rfl w.heap.size 3 i0 (.int .i64 0) 1 8 Tryz.underlying37 hi hz0 hz1 hz2 rfl (by decide) _ _ _ rfl (owns_empty w) ⟨b, p, none⟩ nx cx (icells xs) rfl (by rw [icells_length, hlx, Nat.mul_one]) (ints_news (HX.out.below ((Below.refl w.heap.size w).alloc (Nat.le_refl _) _) (by omega))) (icells_one _) (by unfold maxLen; omega) (by omega) (by simp) ?_; intro v2 w2 hown hgrow _; have hr := row_first hown; have hb2 := ((Below.refl w.heap.size w).alloc (Nat.le_refl _) (.cells #[] 3 (0, 0))).grown hgrow (by simp) (fun k e => by cases e; exact Nat.le_refl _); clear hown hgrow; obtain ⟨a2, c2, rfl, -⟩ := hr.form)
  have hone := ListL.one hr hb2.size
  rw [hlx] at hone
  have hbo : Below w.heap.size w (w2.alloc (.cells #[.slice a2 nx c2] 41 (0, 0))) := hb2.alloc hb2.size _
  have HONE := Lib.hid hone
  have HBO := Lib.hid hbo
  generalize hw3 : w2.alloc (.cells #[.slice a2 nx c2] 41 (0, 0)) = w3 at HONE HBO ⊢
  have hs3 : w2.heap.size < w3.heap.size := by rw [← hw3]; simp
  clear hone hbo hr hw3
  go_loopw [6, 7, 8] (fun v o i wr => ∃ (k : Nat) (q : Bool), k ≤ n ∧ i = .int .i64 k ∧ o = .bool q ∧ Hid (q = inKB m xs k) ∧ ListL ownRow 41 w.heap.size wr.heap.size wr v (listK (inK m xs) (k + 1)) ∧ Below w.heap.size w wr) (fun _ _ i _ => n - (intOf i).toNat)
  case atStart => exact ⟨0, false, Nat.zero_le _, rfl, rfl, Lib.hid rfl, HONE.out, HBO.out⟩
  case round =>
    obtain ⟨k, q, hk, rfl, rfl, ho, hli, hbw⟩ := hrel
    obtain ⟨av, cv, rfl, hcv, -⟩ := hli.form
    have hkl := listK_length (inK m xs) (k + 1)
    rw [hkl] at hli hcv ⊢
    have HKL := Lib.hid hkl
    clear hkl
    have hsz := hbw.size
    have HLI := Lib.hid hli
    have HBW := Lib.hid hbw
    by_cases hlt : k < n
    · obtain ⟨x, hx⟩ : ∃ x, m[k]? = some x := ⟨_, List.getElem?_eq_getElem (by rw [hlen]; exact hlt)⟩
      obtain ⟨b1, o1, es, rfl, hbB1, hr, hs⟩ := HL.out.2 k x hx
      have hrr := rangeAt_kept hr (show b1 < w.heap.size from hbB1) (Kept.of_below (I := Under w.heap.size) hbw fun b hb => hb)
      have hdr : Below w.heap.size w wr.drew := hbw.trans ⟨rfl, rfl, rfl, Nat.le_refl _, fun _ _ => rfl⟩
      have hsw := shOp.below hs hdr (Nat.le_refl _)
      have hbx' : shOp.bulk x ≤ 1048576 := by have h1 := bulk_mem shOp.bulk m k x hx; have h2 := HB.out; omega
      rw [shOp_bulk, bulk_ints] at hbx'
      obtain ⟨ae, ne, ce, rfl, ge, le, me⟩ := shOp_reads.1 hsw
      obtain ⟨g, ay, ny, cy, rfl, hg1, hg2, hg3, cg, iy⟩ := hli.at k (inK m xs k) (listK_get _ _ _ (by omega)) (by have := HSM.out k; omega)
      have hC := specOpForward_any wr.drew x.1 x.2.1 x.2.2.1 ae ne ce x.2.2.2 ay ny cy (inK m xs k) ((me.ints (by rw [← me.1]; exact hbx')).le hdr.size) ge le ((iy.below (show Below wr.heap.size wr wr.drew from (Below.refl _ _).drew) (Nat.le_refl _)))
      have hfk : inK m xs (k + 1) = fwN x.1 x.2.1 x.2.2.1 x.2.2.2 (inK m xs k) := by
        show fwOp (opAt m k) (inK m xs k) = _
        rw [opAt_get hx]
        rfl
      have hgk : inKB m xs (k + 1) = (inKB m xs k || fwB x.1 x.2.1 x.2.2.1 x.2.2.2 (inK m xs k)) := by
        show (inKB m xs k || fwOpB (opAt m k) (inK m xs k)) = _
        rw [opAt_get hx]
        rfl
      rw [← hfk] at hC
      obtain ⟨fl, hfl⟩ : ∃ q, fwB x.1 x.2.1 x.2.2.1 x.2.2.2 (inK m xs k) = q := ⟨_, rfl⟩
      rw [hfl] at hC hgk
      have HC := Lib.hid hC
      have HGK := Lib.hid hgk
      rw [shOp_size] at hrr
      have d0 := hrr 0 _ rfl
      have d1 := hrr 1 _ rfl
      have d2 := hrr 2 _ rfl
      have d3 := hrr 3 _ rfl
      simp only [Nat.add_zero] at d0
      clear hr hrr hs hsw me hx hbx' hfk hgk hfl hC hbB1 hdr hli hbw iy
      have hkk : (k : Int) < (k : Int) + 1 := by omega
      go_upto_region 6 with fail
      go_cut [9, 10] (fun t u wx => u = .bool fl ∧ Row wr.heap.size wx t (inK m xs (k + 1)) ∧ Below wr.heap.size wr wx)
      case first =>
        go_region_law (first
          | (go_simp; go_at_call 102; (with_reducible refine HC.out.mono ?_); rintro e wt ⟨v', rfl, hr, hb⟩; have HR := Lib.hid hr; have HBT := Lib.hid hb; clear hr hb))
        all_goals
          go_wp2_with fail
          go_meet
          case rel => exact ⟨rfl, HR.out, ((Below.refl wr.heap.size wr).drew).trans HBT.out⟩
      case rest =>
        obtain ⟨rfl, hr, hb⟩ := hcut
        obtain ⟨w4, rfl⟩ : ∃ W, W = wc := ⟨_, rfl⟩
        obtain ⟨u2, hu2⟩ : ∃ u, u = inK m xs (k + 1) := ⟨_, rfl⟩
        rw [← hu2] at hr
        obtain ⟨a2, c2, rfl, -⟩ := hr.form
        have hl2 := (HLI.out.below hb (Nat.le_refl _))
        obtain ⟨us, G, h1, h2, h3, h4, h5⟩ := hl2.all
        obtain ⟨n2, hn2⟩ : ∃ q, u2.length = q := ⟨_, rfl⟩
        rw [hn2] at hr ⊢
        have hP : Hid (∀ (w5 : World) (g' cap : Nat), w5.ownsRow w.heap.size 41 1 (.slice (some ⟨g', 0, none⟩) (k + 1 + 1) cap) (k + 1 + 1) (us ++ [.slice a2 n2 c2]) → (w4.alloc (.cells #[.slice a2 n2 c2] 41 (0, 0))).grownBy w5 (Value.slice (some ⟨g, 0, none⟩) (k + 1) cv).ownBlock →
            ((Value.slice (some ⟨g, 0, none⟩) (k + 1) cv).ownBlock = some g' ∨ g' = (w4.alloc (.cells #[.slice a2 n2 c2] 41 (0, 0))).heap.size) → ListL ownRow 41 w.heap.size w5.heap.size w5 (.slice (some ⟨g', 0, none⟩) (k + 1 + 1) cap) (listK (inK m xs) (k + 1 + 1)) ∧ Below w.heap.size w4 w5) := Lib.hid fun w5 g' cap ho hgr hat => by
          have hp := ListL.put (S := ownRow) (T := 41) (lo := w.heap.size) (hi := wr.heap.size) (w := w4) (w' := w5) (v := .slice (some ⟨g, 0, none⟩) (k + 1) cv) (v' := .slice (some ⟨g', 0, none⟩) (k + 1 + 1) cap) (xs := listK (inK m xs) (k + 1)) (o := (.cells #[.slice a2 n2 c2] 41 (0, 0))) (x := u2) (F := FromB wr.heap.size w4.heap.size)
            hsz h1 h2 hb.size h3 h4 h5 (Row.ownRow hr) (fun b o f => f) rfl (by rw [HKL.out]; exact ho) hgr (by
              rcases hat with e | e
              · exact .inl e.symm
              · exact .inr (congrArg some e))
          rw [hu2] at hp
          exact hp
        rw [HKL.out] at h1
        have HRD : Hid ((w4.alloc (.cells #[.slice a2 n2 c2] 41 (0, 0))).ownsRow w.heap.size 41 1 (.slice (some ⟨g, 0, none⟩) (k + 1) cv) (k + 1) us) := Lib.hid (World.ownsRow.alloc h1 _)
        have HND : Hid (∀ j u, ([Value.slice a2 n2 c2] : List Value)[j]? = some u → (w4.alloc (.cells #[.slice a2 n2 c2] 41 (0, 0))).cell? ((⟨w4.heap.size, 0, none⟩ : Addr).add j) = some u) := Lib.hid (World.news_of_block (heap_alloc_new w4 (.cells #[.slice a2 n2 c2] 41 (0, 0))))
        have hs4 := hb.size
        have HBS : Hid (w.heap.size ≤ (w4.alloc (.cells #[.slice a2 n2 c2] 41 (0, 0))).heap.size) := Lib.hid (by rw [size_one']; omega)
        have HB4 := Lib.hid (HBW.out.trans (hb.mono hsz))
        clear d0 d1 d2 d3 cg h1 h2 h3 h4 h5 hl2 hb hr HLI HC
        cases q
        all_goals
          go_wp2_with (at_builtin; refine wpList_append_lies _ rfl _ _ 30 rfl w.heap.size 41 j0 (.agg #[.slice none 0 0]) 1 24 Tryz.underlying30 hj hy0 hy1 hy2 rfl (by decide) _ _ _ rfl HRD.out ⟨w4.heap.size, 0, none⟩ 1 1 [.slice a2 n2 c2] rfl rfl HND.out (slices_one _ _ _) (by omega) (by unfold maxLen; omega) (by omega) HBS.out _ rfl ?_; intro g' cap w5 hown5 hgrow5 hat5 _; obtain ⟨hli5, hb5⟩ := hP.out w5 g' cap hown5 hgrow5 hat5; have HLI5 := Lib.hid hli5; have HB5 := Lib.hid (HB4.out.trans hb5); clear hown5 hgrow5 hat5 hli5 hb5)
          go_roundw
          case rel => exact ⟨k + 1, _, by omega, by go_num, rfl, Lib.hid (by rw [HGK.out, ← ho.out] <;> rfl), HLI5.out, HB5.out⟩
          case measure => simp [intOf]; omega
    · obtain rfl : k = n := by omega
      clear hli hbw
      go_wp2_with fail
      go_ret2
      exact ⟨_, by rw [← ho.out] <;> rfl, HLI.out, HBW.out⟩
end Go.Proofs.YtgnjcfbfbpjndaaGreatDoor

end
