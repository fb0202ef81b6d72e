/-
  The model's ZeroGrads.
-/
import Derived.Test.YtpnifgpmleaohaaGreatDoorJoin11
import Derived.Test.YtpnifgpmleaohaaGreatDoorJoin13
import Derived.Test.YtpnifgpmleaohaaGreatDoorJoin14
import Derived.Deep.AppendLies
namespace Go.Proofs.YtpnifgpmleaohaaGreatDoor
open Go.RowKit Go.Sort
set_option linter.unusedVariables false

theorem infoRow1 : (Tryz.prog.info? 56).map (fun i => (i.zero, i.size, i.bytes)) = some (some (.agg #[.slice none 0 0]), 1, 24) := by kernel_rfl
theorem Row.made (w : World) (n : Nat) (h : n ≤ 9223372036854775807) : Row w.heap.size (w.alloc (.cells (madeCells #[.int .i64 0] n) 3 (0, 0))) (.slice (some ⟨w.heap.size, 0, none⟩) n n) (noughts n) := by
  have h1 : (noughts n).length = n := by unfold noughts; rw [List.length_replicate]
  have h2 : (madeCells #[.int .i64 0] n).toList = icells (noughts n) := by
    rw [toList_madeCells_one]
    unfold icells noughts
    rw [List.map_replicate]
  have h3 := World.ownsRow_lit (base := w.heap.size) (e := 3) (size := 1) w (madeCells #[.int .i64 0] n) n (Nat.le_refl _) (by unfold maxLen; omega) (by rw [size_madeCells, Nat.mul_one])
  unfold Row
  rw [h1, ← h2]
  exact h3
theorem Row.ownRow {base : Nat} {w : World} {u : Value} {x : List Int} (h : Row base w u x) : ownRow.owns (FromB base w.heap.size) w [u] x := h.own
theorem cellsG {w : World} {g : Nat} {x y z : Value} {T : TypeId} (h : w.heap[g]? = some (.cells #[x, y, z] T (0, 0))) :
    (w.cell? ⟨g, 0, none⟩ = some x ∧ w.cell? ⟨g, 1, none⟩ = some y ∧ w.cell? ⟨g, 2, none⟩ = some z) ∧ w.frozen? ⟨g, 0, none⟩ = false ∧ w.frozen? ⟨g, 1, none⟩ = false ∧ w.frozen? ⟨g, 2, none⟩ = false :=
  ⟨⟨by rw [cell_of_row _ _ _ _ _ _ h]; rfl, by rw [cell_of_row _ _ _ _ _ _ h]; rfl, by rw [cell_of_row _ _ _ _ _ _ h]; rfl⟩, frozen_of_row _ _ _ _ _ h, frozen_of_row _ _ _ _ _ h, frozen_of_row _ _ _ _ _ h⟩
theorem ListL.stored {α : Type} {S : Owned α} {T : TypeId} {lo hi : Nat} {w : World} {v : Value} {xs : List α} (h : ListL S T lo hi w v xs) (g i : Nat) (u : Value) (hg : g < lo) : ListL S T lo hi (w.setCell ⟨g, i, none⟩ u) v xs := by
  have hb : ∀ k, lo ≤ k → (w.setCell ⟨g, i, none⟩ u).heap[k]? = w.heap[k]? := fun k hk => heap_setCell_other _ _ _ _ (by show k ≠ g; omega)
  obtain ⟨us, G, h1, h2, h3, h4, h5⟩ := h.all
  refine ⟨by simpa using h.top, us, G, ⟨h1.1, h1.2.imp id ?_⟩, h2, fun j x hx => ?_, h4, h5⟩
  · rintro ⟨k, cap, cur, rfl, e1, e2, e3⟩
    exact ⟨k, cap, cur, rfl, e1, (hb k e1).trans e2, e3⟩
  · obtain ⟨es, q1, q2⟩ := h3 j x hx
    refine ⟨es, q1, S.owns_keep q2 ((Touched.set (F := fun b _ => b = g) w g i u rfl).same fun b o f f' => ?_)⟩
    have e : b = g := f
    have := (h4 j b o f').1
    omega
theorem Boxes.far {w w1 w4 : World} {A Z O : Array Value} {TA T : TypeId} (h : Boxes w w1 A Z O TA T) (hb : Below (w.heap.size + 3) w1 w4) : Boxes w w4 A Z O TA T :=
  ⟨h.below.trans (hb.mono (by omega)), Nat.le_trans h.size hb.size, (hb.block _ (by omega)).trans h.a, (hb.block _ (by omega)).trans h.z, (hb.block _ (by omega)).trans h.o⟩
theorem size_one' (w : World) (o : Obj) : (w.alloc o).heap.size = w.heap.size + 1 := by simp
theorem slices_one (a : Option Addr) (n c : Nat) : ∀ u ∈ [Value.slice a n c], u.oneCell' = true := by
  intro u hu
  rw [List.mem_singleton.1 hu]
  rfl
set_option maxRecDepth 100000 in
set_option maxHeartbeats 6400000 in
theorem specZeroGrads_o (w : World) (es : List Value) (m : dModel) (h : shModel.reads (Under w.heap.size) w es m) (hb : shModel.bulk m ≤ 1048576) :
    Calls Tryz.prog 117 #[.agg es.toArray] w fun e w' => ∃ es', e = .returned (.agg es'.toArray) ∧ shGrads.reads (From w.heap.size w'.heap.size) w' es' (zeroG m) ∧ Below w.heap.size w w' := by
  obtain ⟨a, n, c, rfl, hc1, hc2, hl⟩ := shModel_reads.1 h
  obtain ⟨i0, hi, hz0, hz1, hz2⟩ := info_parts infoRow1
  have hlen := hl.1
  have hal : Below w.heap.size w (((w.alloc (.cells #[.slice a n c] 50 (0, 0))).alloc (.cells #[.slice none 0 0, .int .i64 0, .bool false] 30 (0, 0))).alloc (.cells #[.slice none 0 0, .int .i64 0, .bool false] 30 (0, 0))) := (((Below.refl _ _).alloc (Nat.le_refl _) _).alloc (by simp) _).alloc (by simp; omega) _
  have hbx := Boxes.start w #[.slice a n c] #[.slice none 0 0, .int .i64 0, .bool false] #[.slice none 0 0, .int .i64 0, .bool false] 50 30
  have HM := Lib.hid fun (w1 : World) (hb1 : Below w.heap.size w w1) => specModelOk_c w1 a n c m ((hl.below hb1 (Nat.le_refl _)).le hb1.size) hc1 hc2 hb
  have HL := Lib.hid hl
  have HA := Lib.hid hal
  have HBX := Lib.hid hbx
  obtain ⟨q, hq⟩ : ∃ q, modelOkB m = q := ⟨_, rfl⟩
  have HQ := Lib.hid hq
  rw [Hid] at HM
  simp only [hq] at HM
  replace HM := Lib.hid HM
  clear h hl hal hbx hq hb
  cases q
  · have hz : zeroRows m = [] := by unfold zeroRows; rw [HQ.out]; rfl
    have HZ := Lib.hid hz
    clear hz
    go_enter Tryz.func117, Tryz.ntmps117
    go_wp2_with fail
    generalize ((w.alloc (.cells #[.slice a n c] 50 (0, 0))).alloc (.cells #[.slice none 0 0, .int .i64 0, .bool false] 30 (0, 0))).alloc (.cells #[.slice none 0 0, .int .i64 0, .bool false] 30 (0, 0)) = wa at HA HBX ⊢
    go_loopw [4] (fun i wr => i = .int .i64 0 ∧ Boxes w wr #[.slice a n c] #[.slice none 0 0, .int .i64 0, .bool false] #[.slice none 0 0, .int .i64 0, .bool false] 50 30) (fun _ _ => 0)
    case atStart => exact ⟨rfl, HBX.out⟩
    case round =>
      obtain ⟨rfl, hbo⟩ := hrel
      have hba := box1 hbo.a
      have HBO := Lib.hid hbo
      have HN := Lib.hid (HM.out wr hbo.below)
      obtain ⟨⟨d0, d1, d2⟩, f0, f1, f2⟩ := cellsG hbo.o
      obtain ⟨⟨z0, z1, z2⟩, y0, y1, y2⟩ := cellsG hbo.z
      clear hbo
      by_cases hn0 : 0 < n
      · go_wp2_with fail
        refine HN.out.mono ?_
        rintro e w1 ⟨rfl, hb⟩
        have hbo := HBO.out.call hb
        have HB1 := Lib.hid hbo
        clear d0 d1 d2 f0 f1 f2 z0 z1 z2 y0 y1 y2 hba hb
        obtain ⟨⟨d0, d1, d2⟩, f0, f1, f2⟩ := cellsG hbo.o
        obtain ⟨⟨z0, z1, z2⟩, y0, y1, y2⟩ := cellsG hbo.z
        clear hbo
        go_wp2_with fail
        refine bodyPost_ret (results_cell_row rfl _ _ (w.heap.size + 1) 30 #[.slice none 0 0, .int .i64 0, .bool false] (0, 0) _ rfl ?_ Tryz.underlying30 rfl (by kernel_rfl)) rfl ?_
        · exact store3 HB1.out.z _ _ _
        · refine ⟨[.slice none 0 0, .int .i64 0, .bool false], rfl, ?_, ((HB1.out.below.setCell (p := ⟨w.heap.size + 1, 0, none⟩) (by show _ ≤ w.heap.size + 1; omega) _).setCell (p := ⟨w.heap.size + 1, 1, none⟩) (by show _ ≤ w.heap.size + 1; omega) _).setCell (p := ⟨w.heap.size + 1, 2, none⟩) (by show _ ≤ w.heap.size + 1; omega) _⟩
          unfold zeroG
          rw [HZ.out]
          exact shGrads_reads.2 ⟨none, 0, 0, rfl, Nat.le_refl _, by omega, rfl, fun j x hx => by simp at hx⟩
      · obtain rfl : n = 0 := by omega
        go_wp2_with fail
        refine bodyPost_ret (results_cell_row rfl _ _ (w.heap.size + 1) 30 #[.slice none 0 0, .int .i64 0, .bool false] (0, 0) _ rfl ?_ Tryz.underlying30 rfl (by kernel_rfl)) rfl ?_
        · exact store3 HBO.out.z _ _ _
        · refine ⟨[.slice none 0 0, .int .i64 0, .bool false], rfl, ?_, ((HBO.out.below.setCell (p := ⟨w.heap.size + 1, 0, none⟩) (by show _ ≤ w.heap.size + 1; omega) _).setCell (p := ⟨w.heap.size + 1, 1, none⟩) (by show _ ≤ w.heap.size + 1; omega) _).setCell (p := ⟨w.heap.size + 1, 2, none⟩) (by show _ ≤ w.heap.size + 1; omega) _⟩
          unfold zeroG
          rw [HZ.out]
          exact shGrads_reads.2 ⟨none, 0, 0, rfl, Nat.le_refl _, by omega, rfl, fun j x hx => by simp at hx⟩
  · have hz : zeroRows m = listK (fun j => noughts (opAt m j).2.2.2.length) n := by unfold zeroRows; rw [HQ.out, hlen]; rfl
    obtain ⟨-, hm1, hm8⟩ := modelOk_has HQ.out
    rw [hlen] at hm1 hm8
    obtain ⟨f, hf⟩ : ∃ f : Nat → List Int, f = fun j => noughts (opAt m j).2.2.2.length := ⟨_, rfl⟩
    rw [← hf] at hz
    have HF := Lib.hid hf
    have HZ := Lib.hid hz
    clear hz hf
    go_enter Tryz.func117, Tryz.ntmps117
    go_wp2_with fail
    generalize ((w.alloc (.cells #[.slice a n c] 50 (0, 0))).alloc (.cells #[.slice none 0 0, .int .i64 0, .bool false] 30 (0, 0))).alloc (.cells #[.slice none 0 0, .int .i64 0, .bool false] 30 (0, 0)) = wa at HA HBX ⊢
    go_loopw [4] (fun i wr => ∃ (k : Nat) (v : Value), k ≤ n ∧ i = .int .i64 k ∧ Boxes w wr #[.slice a n c] #[.slice none 0 0, .int .i64 0, .bool false] #[v, .int .i64 0, .bool false] 50 30 ∧ ListL ownRow 56 (w.heap.size + 3) wr.heap.size wr v (listK f k)) (fun i _ => n - (intOf i).toNat)
    case atStart => exact ⟨0, .slice none 0 0, Nat.zero_le _, rfl, HBX.out, ListL.nil _ _ (Nat.le_refl _)⟩
    case round =>
      obtain ⟨k, v, hk, rfl, hbo, hli⟩ := hrel
      obtain ⟨av, cv, rfl, -, -⟩ := hli.form
      have hkl := listK_length f k
      rw [hkl] at hbo hli
      have hsz3 := hbo.size
      have hba := box1 hbo.a
      have HBO := Lib.hid hbo
      have HLI := Lib.hid hli
      obtain ⟨⟨d0, d1, d2⟩, f0, f1, f2⟩ := cellsG hbo.o
      obtain ⟨⟨z0, z1, z2⟩, y0, y1, y2⟩ := cellsG hbo.z
      have HN := Lib.hid (HM.out wr hbo.below)
      clear hbo hli
      by_cases hlt : k < n
      · go_wp2_with fail
        refine HN.out.mono ?_
        rintro e w1 ⟨rfl, hb⟩
        have hbo := HBO.out.call hb
        have hli := HLI.out.below hb (Nat.le_refl _)
        have hsz4 := hbo.size
        have HB1 := Lib.hid hbo
        clear d0 d1 d2 f0 f1 f2 z0 z1 z2 y0 y1 y2 hba HBO HLI HN
        obtain ⟨x, hx⟩ : ∃ x, m[k]? = some x := ⟨_, List.getElem?_eq_getElem (by rw [hlen]; exact hlt)⟩
        obtain ⟨b, o, es, rfl, hbB, hr, hs⟩ := HL.out.2 k x hx
        obtain ⟨ae, ne, ce, rfl, ge, le, me⟩ := shOp_reads.1 hs
        have hne : ne ≤ 36 := by
          have e1 := modelOk_small HQ.out k (by rw [hlen]; exact hlt)
          rw [opAt_get hx] at e1
          have e2 := me.1
          omega
        have hfk : f k = noughts ne := by
          rw [HF.out]
          show noughts (opAt m k).2.2.2.length = _
          rw [opAt_get hx]
          exact congrArg noughts me.1
        have HFK := Lib.hid hfk
        have hrr := rangeAt_kept hr (show b < w.heap.size from hbB) (Kept.of_below (I := Under w.heap.size) hbo.below fun b hb => hb)
        rw [shOp_size] at hrr
        have c3 : w1.cell? ⟨b, o + k * 4 + 3, none⟩ = some (.slice ae ne ce) := hrr 3 _ rfl
        have hba := box1 hbo.a
        obtain ⟨⟨d0, d1, d2⟩, f0, f1, f2⟩ := cellsG hbo.o
        clear hr hrr hs hx hfk hbB
        have hmk := run_make_many (P := Tryz.prog) 28 3 _ 1 8 Tryz.underlying28 Tryz.infoI64 ne (by omega) (by omega)
        have hm1 : Below w1.heap.size w1 (w1.alloc (.cells (madeCells #[.int .i64 0] ne) 3 (0, 0))).drew := ((Below.refl _ _).alloc (Nat.le_refl _) _).drew
        have hl2 := (hli.below hm1 (Nat.le_trans hli.top (Nat.le_refl _)) : ListL ownRow 56 (w.heap.size + 3) wr.heap.size (w1.alloc (.cells (madeCells #[.int .i64 0] ne) 3 (0, 0))).drew (.slice av k cv) (listK f k)).wide (hi' := w1.heap.size) (Nat.le_refl _) hli.top hm1.size
        obtain ⟨us, G, h1, h2, h3, h4, h5⟩ := hl2.all
        have hP : Hid (∀ (w4 : World) (g cap : Nat), w4.ownsRow (w.heap.size + 3) 56 1 (.slice (some ⟨g, 0, none⟩) (k + 1) cap) (k + 1) (us ++ [.slice (some ⟨w1.heap.size, 0, none⟩) ne ne]) → ((w1.alloc (.cells (madeCells #[.int .i64 0] ne) 3 (0, 0))).alloc (.cells #[.slice (some ⟨w1.heap.size, 0, none⟩) ne ne] 56 (0, 0))).drew.grownBy w4 (Value.slice av k cv).ownBlock →
            ((Value.slice av k cv).ownBlock = some g ∨ g = ((w1.alloc (.cells (madeCells #[.int .i64 0] ne) 3 (0, 0))).alloc (.cells #[.slice (some ⟨w1.heap.size, 0, none⟩) ne ne] 56 (0, 0))).drew.heap.size) → ListL ownRow 56 (w.heap.size + 3) w4.heap.size w4 (.slice (some ⟨g, 0, none⟩) (k + 1) cap) (listK f (k + 1)) ∧ Below (w.heap.size + 3) w1 w4) := Lib.hid fun w4 g cap ho hgr hat => by
          have hp := ListL.put (S := ownRow) (T := 56) (lo := w.heap.size + 3) (hi := w1.heap.size) (w := (w1.alloc (.cells (madeCells #[.int .i64 0] ne) 3 (0, 0))).drew) (w' := w4) (v := .slice av k cv) (v' := .slice (some ⟨g, 0, none⟩) (k + 1) cap) (xs := listK f k) (o := (.cells #[.slice (some ⟨w1.heap.size, 0, none⟩) ne ne] 56 (0, 0))) (x := noughts ne) (F := FromB w1.heap.size (w1.alloc (.cells (madeCells #[.int .i64 0] ne) 3 (0, 0))).heap.size)
            hsz4 h1 h2 hm1.size h3 h4 h5 (Row.ownRow (Row.made w1 ne (by omega))) (fun b o f => f) rfl (by rw [hkl]; exact ho) hgr (by
              rcases hat with e | e
              · exact .inl e.symm
              · exact .inr (congrArg some e))
          rw [← HFK.out] at hp
          exact ⟨hp.1, (hm1.mono hsz4).trans hp.2⟩
        rw [hkl] at h1
        have HRD : Hid (((w1.alloc (.cells (madeCells #[.int .i64 0] ne) 3 (0, 0))).alloc (.cells #[.slice (some ⟨w1.heap.size, 0, none⟩) ne ne] 56 (0, 0))).drew.ownsRow (w.heap.size + 3) 56 1 (.slice av k cv) k us) := Lib.hid (World.ownsRow.alloc (show (w1.alloc (.cells (madeCells #[.int .i64 0] ne) 3 (0, 0))).drew.ownsRow _ _ _ _ _ _ from h1) _)
        have HND : Hid (∀ j u, ([Value.slice (some ⟨w1.heap.size, 0, none⟩) ne ne] : List Value)[j]? = some u → ((w1.alloc (.cells (madeCells #[.int .i64 0] ne) 3 (0, 0))).alloc (.cells #[.slice (some ⟨w1.heap.size, 0, none⟩) ne ne] 56 (0, 0))).drew.cell? ((⟨w1.heap.size + 1, 0, none⟩ : Addr).add j) = some u) := Lib.hid (by
          have := heap_alloc_new (w1.alloc (.cells (madeCells #[.int .i64 0] ne) 3 (0, 0))) (.cells #[.slice (some ⟨w1.heap.size, 0, none⟩) ne ne] 56 (0, 0))
          rw [size_one'] at this
          exact World.news_of_block (w := ((w1.alloc (.cells (madeCells #[.int .i64 0] ne) 3 (0, 0))).alloc (.cells #[.slice (some ⟨w1.heap.size, 0, none⟩) ne ne] 56 (0, 0))).drew) this)
        have hm1' : Below w1.heap.size w1 (w1.alloc (.cells (madeCells #[.int .i64 0] ne) 3 (0, 0))) := (Below.refl _ _).alloc (Nat.le_refl _) _
        have hm2' : Below w1.heap.size w1 ((w1.alloc (.cells (madeCells #[.int .i64 0] ne) 3 (0, 0))).alloc (.cells #[.slice (some ⟨w1.heap.size, 0, none⟩) ne ne] 56 (0, 0))) := hm1'.alloc (by simp) _
        have dm0 := (hm1'.cell (p := ⟨w.heap.size + 1 + 1, 0, none⟩) (by show w.heap.size + 1 + 1 < _; omega)).trans d0
        have de0 := (hm2'.cell (p := ⟨w.heap.size + 1 + 1, 0, none⟩) (by show w.heap.size + 1 + 1 < _; omega)).trans d0
        have HBS : Hid (w.heap.size + 3 ≤ ((w1.alloc (.cells (madeCells #[.int .i64 0] ne) 3 (0, 0))).alloc (.cells #[.slice (some ⟨w1.heap.size, 0, none⟩) ne ne] 56 (0, 0))).drew.heap.size) := Lib.hid (by
          show _ ≤ ((w1.alloc (.cells (madeCells #[.int .i64 0] ne) 3 (0, 0))).alloc (.cells #[.slice (some ⟨w1.heap.size, 0, none⟩) ne ne] 56 (0, 0))).heap.size
          rw [size_one', size_one']
          omega)
        clear h1 h2 h3 h4 h5 hl2 hli hbo hm1 hm1' hm2' f1 f2
        go_wp2_with fail
        go_region_law (first
          | (refine step_append_lies _ rfl (.tmp 18) (.tmp 28) 27 rfl (w.heap.size + 3) 56 i0 (.agg #[.slice none 0 0]) 1 24 Tryz.underlying27 hi hz0 hz1 hz2 rfl (by decide) _ _ _ (by simp [Act.eval]) HRD.out ⟨w1.heap.size + 1, 0, none⟩ 1 1 [.slice (some ⟨w1.heap.size, 0, none⟩) ne ne] (by simp [Act.eval]) rfl HND.out (slices_one _ _ _) (by omega) (by unfold maxLen; omega) (by omega) HBS.out _ rfl ?_; intro g cap w4 hown4 hgrow4 hat4 _; obtain ⟨hli4, hb4⟩ := hP.out w4 g cap hown4 hgrow4 hat4; have hbo4 := HB1.out.far hb4; clear d0 d1 d2 f0 dm0 de0 hown4 hgrow4 hat4; obtain ⟨⟨d0, d1, d2⟩, f0, -, -⟩ := cellsG hbo4.o; have HLI4 := Lib.hid hli4; have HBO4 := Lib.hid hbo4; clear hli4 hbo4 hb4))
        all_goals
          go_wp2_with fail
          go_round
          case rel =>
            have hq := HBO4.out.store 0 (.slice (some ⟨g, 0, none⟩) (k + 1) cap)
            have hli := HLI4.out.stored (w.heap.size + 1 + 1) 0 (.slice (some ⟨g, 0, none⟩) (k + 1) cap) (by omega)
            exact ⟨k + 1, .slice (some ⟨g, 0, none⟩) (k + 1) cap, by omega, by go_num, by simpa using hq, by simpa using hli⟩
          case measure => simp [intOf]; omega
      · obtain rfl : k = n := by omega
        go_wp2_with fail
        refine bodyPost_ret (results_cell_row rfl _ _ (w.heap.size + 1) 30 #[.slice av k cv, .int .i64 0, .bool false] (0, 0) _ rfl ?_ Tryz.underlying30 rfl (by kernel_rfl)) rfl ?_
        · exact store3 HBO.out.z _ _ _
        · refine ⟨[.slice av k cv, .int .i64 0, .bool false], rfl, ?_, ((HBO.out.below.setCell (p := ⟨w.heap.size + 1, 0, none⟩) (by show _ ≤ w.heap.size + 1; omega) _).setCell (p := ⟨w.heap.size + 1, 1, none⟩) (by show _ ≤ w.heap.size + 1; omega) _).setCell (p := ⟨w.heap.size + 1, 2, none⟩) (by show _ ≤ w.heap.size + 1; omega) _⟩
          have hfin := ((HLI.out.stored (w.heap.size + 1) 0 (.slice av k cv) (by omega)).stored (w.heap.size + 1) 1 (.int .i64 0) (by omega)).stored (w.heap.size + 1) 2 (.bool false) (by omega)
          obtain ⟨a', cap, e1, e2, e3, e4⟩ := hfin.list (by decide)
          rw [hkl] at e1 e2 e4
          cases e1
          unfold zeroG
          rw [HZ.out]
          exact shGrads_reads.2 ⟨_, _, _, rfl, e2, e3, e4.listAt (fun b o f => ⟨by have := f.1; omega, by have := f.2; simpa using this⟩) (by decide)⟩
end Go.Proofs.YtpnifgpmleaohaaGreatDoor
