import Derived.Test.YtpnifgpmleaohaaModS
import Derived.Test.YtpnifgpmleaohaaSeqM
import Derived.Test.YtpnifgpmleaohaaGrow
import Derived.Test.YtpnifgpmleaohaaFew
import Derived.Deep.AppendLies
import Derived.Test.YtpnifgpmleaohaaOwnT
import Derived.Test.YtpnifgpmleaohaaInsD
import Derived.Test.YtpnifgpmleaohaaMark
import Derived.Test.YtpnifgpmleaohaaDeepS
/-! YtpnifgpmleaohaaSeqS -/
section

namespace Go.Proofs.Ytpnifgpmleaohaa
open Go.RowKit
set_option linter.unusedVariables false

def sameGradsB (a b : dGrads) : Bool := decide (a.2.1 = b.2.1) && (decide (a.2.2 = b.2.2) && sameRowsB a.1 b.1)
end Go.Proofs.Ytpnifgpmleaohaa

end

/-! YtpnifgpmleaohaaSeqZ -/
section

namespace Go.Proofs.Ytpnifgpmleaohaa
open Go.RowKit Go.Sort
set_option linter.unusedVariables false

theorem infoRow1 : (Try.prog.info? 88).map (fun i => (i.zero, i.size, i.bytes)) = some (some (.agg #[.slice none 0 0]), 1, 24) := by kernel_rfl
theorem Row.made (w : World) (n : Nat) (h : n ≤ 9223372036854775807) : Row w.heap.size (w.alloc (.cells (madeCells #[.int .i64 0] n) 3 (0, 0))) (.slice (some ⟨w.heap.size, 0, none⟩) n n) (noughts n) := by
  have h1 : (noughts n).length = n := by unfold noughts; rw [List.length_replicate]
  have h2 : (madeCells #[.int .i64 0] n).toList = icells (noughts n) := by
    rw [toList_madeCells_one]
    unfold icells noughts
    rw [List.map_replicate]
  have h3 := World.ownsRow_lit (base := w.heap.size) (e := 3) (size := 1) w (madeCells #[.int .i64 0] n) n (Nat.le_refl _) (by unfold maxLen; omega) (by rw [size_madeCells, Nat.mul_one])
  unfold Row
  rw [h1, ← h2]
  exact h3
theorem Row.ownRow {base : Nat} {w : World} {u : Value} {x : List Int} (h : Row base w u x) : ownRow.owns (FromB base w.heap.size) w [u] x := h.own
theorem cellsG {w : World} {g : Nat} {x y z : Value} {T : TypeId} (h : w.heap[g]? = some (.cells #[x, y, z] T (0, 0))) :
    (w.cell? ⟨g, 0, none⟩ = some x ∧ w.cell? ⟨g, 1, none⟩ = some y ∧ w.cell? ⟨g, 2, none⟩ = some z) ∧ w.frozen? ⟨g, 0, none⟩ = false ∧ w.frozen? ⟨g, 1, none⟩ = false ∧ w.frozen? ⟨g, 2, none⟩ = false :=
  ⟨⟨by rw [cell_of_row _ _ _ _ _ _ h]; rfl, by rw [cell_of_row _ _ _ _ _ _ h]; rfl, by rw [cell_of_row _ _ _ _ _ _ h]; rfl⟩, frozen_of_row _ _ _ _ _ h, frozen_of_row _ _ _ _ _ h, frozen_of_row _ _ _ _ _ h⟩
theorem ListL.stored {α : Type} {S : Owned α} {T : TypeId} {lo hi : Nat} {w : World} {v : Value} {xs : List α} (h : ListL S T lo hi w v xs) (g i : Nat) (u : Value) (hg : g < lo) : ListL S T lo hi (w.setCell ⟨g, i, none⟩ u) v xs := by
  have hb : ∀ k, lo ≤ k → (w.setCell ⟨g, i, none⟩ u).heap[k]? = w.heap[k]? := fun k hk => heap_setCell_other _ _ _ _ (by show k ≠ g; omega)
  obtain ⟨us, G, h1, h2, h3, h4, h5⟩ := h.all
  refine ⟨by simpa using h.top, us, G, ⟨h1.1, h1.2.imp id ?_⟩, h2, fun j x hx => ?_, h4, h5⟩
  · rintro ⟨k, cap, cur, rfl, e1, e2, e3⟩
    exact ⟨k, cap, cur, rfl, e1, (hb k e1).trans e2, e3⟩
  · obtain ⟨es, q1, q2⟩ := h3 j x hx
    refine ⟨es, q1, S.owns_keep q2 ((Touched.set (F := fun b _ => b = g) w g i u rfl).same fun b o f f' => ?_)⟩
    have e : b = g := f
    have := (h4 j b o f').1
    omega
theorem Boxes.far {w w1 w4 : World} {A Z O : Array Value} {TA T : TypeId} (h : Boxes w w1 A Z O TA T) (hb : Below (w.heap.size + 3) w1 w4) : Boxes w w4 A Z O TA T :=
  ⟨h.below.trans (hb.mono (by omega)), Nat.le_trans h.size hb.size, (hb.block _ (by omega)).trans h.a, (hb.block _ (by omega)).trans h.z, (hb.block _ (by omega)).trans h.o⟩
theorem size_one' (w : World) (o : Obj) : (w.alloc o).heap.size = w.heap.size + 1 := by simp
theorem slices_one (a : Option Addr) (n c : Nat) : ∀ u ∈ [Value.slice a n c], u.oneCell' = true := by
  intro u hu
  rw [List.mem_singleton.1 hu]
  rfl
set_option maxRecDepth 100000 in
set_option maxHeartbeats 6400000 in
theorem specZeroGrads_o (w : World) (es : List Value) (m : dModel) (h : shModel.reads (Under w.heap.size) w es m) (hb : shModel.bulk m ≤ 1048576) :
    Calls Try.prog 34 #[.agg es.toArray] w fun e w' => ∃ es', e = .returned (.agg es'.toArray) ∧ shGrads.reads (From w.heap.size w'.heap.size) w' es' (zeroG m) ∧ Below w.heap.size w w' := by
  obtain ⟨a, n, c, rfl, hc1, hc2, hl⟩ := shModel_reads.1 h
  obtain ⟨i0, hi, hz0, hz1, hz2⟩ := info_parts infoRow1
  have hlen := hl.1
  have hal : Below w.heap.size w (((w.alloc (.cells #[.slice a n c] 65 (0, 0))).alloc (.cells #[.slice none 0 0, .int .i64 0, .bool false] 32 (0, 0))).alloc (.cells #[.slice none 0 0, .int .i64 0, .bool false] 32 (0, 0))) := (((Below.refl _ _).alloc (Nat.le_refl _) _).alloc (by simp) _).alloc (by simp; omega) _
  have hbx := Boxes.start w #[.slice a n c] #[.slice none 0 0, .int .i64 0, .bool false] #[.slice none 0 0, .int .i64 0, .bool false] 65 32
  have HM := Lib.hid fun (w1 : World) (hb1 : Below w.heap.size w w1) => specModelOk_c w1 a n c m ((hl.below hb1 (Nat.le_refl _)).le hb1.size) hc1 hc2 hb
  have HL := Lib.hid hl
  have HA := Lib.hid hal
  have HBX := Lib.hid hbx
  obtain ⟨q, hq⟩ : ∃ q, modelOkB m = q := ⟨_, rfl⟩
  have HQ := Lib.hid hq
  rw [Hid] at HM
  simp only [hq] at HM
  replace HM := Lib.hid HM
  clear h hl hal hbx hq hb
  cases q
  · have hz : zeroRows m = [] := by unfold zeroRows; rw [HQ.out]; rfl
    have HZ := Lib.hid hz
    clear hz
    go_enter Try.func34, Try.ntmps34
    go_wp2_with fail
    generalize ((w.alloc (.cells #[.slice a n c] 65 (0, 0))).alloc (.cells #[.slice none 0 0, .int .i64 0, .bool false] 32 (0, 0))).alloc (.cells #[.slice none 0 0, .int .i64 0, .bool false] 32 (0, 0)) = wa at HA HBX ⊢
    go_loopw [4] (fun i wr => i = .int .i64 0 ∧ Boxes w wr #[.slice a n c] #[.slice none 0 0, .int .i64 0, .bool false] #[.slice none 0 0, .int .i64 0, .bool false] 65 32) (fun _ _ => 0)
    case atStart => exact ⟨rfl, HBX.out⟩
    case round =>
      obtain ⟨rfl, hbo⟩ := hrel
      have hba := box1 hbo.a
      have HBO := Lib.hid hbo
      have HN := Lib.hid (HM.out wr hbo.below)
      obtain ⟨⟨d0, d1, d2⟩, f0, f1, f2⟩ := cellsG hbo.o
      obtain ⟨⟨z0, z1, z2⟩, y0, y1, y2⟩ := cellsG hbo.z
      clear hbo
      by_cases hn0 : 0 < n
      · go_wp2_with fail
        refine HN.out.mono ?_
        rintro e w1 ⟨rfl, hb⟩
        have hbo := HBO.out.call hb
        have HB1 := Lib.hid hbo
        clear d0 d1 d2 f0 f1 f2 z0 z1 z2 y0 y1 y2 hba hb
        obtain ⟨⟨d0, d1, d2⟩, f0, f1, f2⟩ := cellsG hbo.o
        obtain ⟨⟨z0, z1, z2⟩, y0, y1, y2⟩ := cellsG hbo.z
        clear hbo
        go_wp2_with fail
        refine bodyPost_ret (results_cell_row rfl _ _ (w.heap.size + 1) 32 #[.slice none 0 0, .int .i64 0, .bool false] (0, 0) _ rfl ?_ Try.underlying32 rfl (by kernel_rfl)) rfl ?_
        · exact store3 HB1.out.z _ _ _
        · refine ⟨[.slice none 0 0, .int .i64 0, .bool false], rfl, ?_, ((HB1.out.below.setCell (p := ⟨w.heap.size + 1, 0, none⟩) (by show _ ≤ w.heap.size + 1; omega) _).setCell (p := ⟨w.heap.size + 1, 1, none⟩) (by show _ ≤ w.heap.size + 1; omega) _).setCell (p := ⟨w.heap.size + 1, 2, none⟩) (by show _ ≤ w.heap.size + 1; omega) _⟩
          unfold zeroG
          rw [HZ.out]
          exact shGrads_reads.2 ⟨none, 0, 0, rfl, Nat.le_refl _, by omega, rfl, fun j x hx => by simp at hx⟩
      · obtain rfl : n = 0 := by omega
        go_wp2_with fail
        refine bodyPost_ret (results_cell_row rfl _ _ (w.heap.size + 1) 32 #[.slice none 0 0, .int .i64 0, .bool false] (0, 0) _ rfl ?_ Try.underlying32 rfl (by kernel_rfl)) rfl ?_
        · exact store3 HBO.out.z _ _ _
        · refine ⟨[.slice none 0 0, .int .i64 0, .bool false], rfl, ?_, ((HBO.out.below.setCell (p := ⟨w.heap.size + 1, 0, none⟩) (by show _ ≤ w.heap.size + 1; omega) _).setCell (p := ⟨w.heap.size + 1, 1, none⟩) (by show _ ≤ w.heap.size + 1; omega) _).setCell (p := ⟨w.heap.size + 1, 2, none⟩) (by show _ ≤ w.heap.size + 1; omega) _⟩
          unfold zeroG
          rw [HZ.out]
          exact shGrads_reads.2 ⟨none, 0, 0, rfl, Nat.le_refl _, by omega, rfl, fun j x hx => by simp at hx⟩
  · have hz : zeroRows m = listK (fun j => noughts (opAt m j).2.2.2.length) n := by unfold zeroRows; rw [HQ.out, hlen]; rfl
    obtain ⟨-, hm1, hm8⟩ := modelOk_has HQ.out
    rw [hlen] at hm1 hm8
    obtain ⟨f, hf⟩ : ∃ f : Nat → List Int, f = fun j => noughts (opAt m j).2.2.2.length := ⟨_, rfl⟩
    rw [← hf] at hz
    have HF := Lib.hid hf
    have HZ := Lib.hid hz
    clear hz hf
    go_enter Try.func34, Try.ntmps34
    go_wp2_with fail
    generalize ((w.alloc (.cells #[.slice a n c] 65 (0, 0))).alloc (.cells #[.slice none 0 0, .int .i64 0, .bool false] 32 (0, 0))).alloc (.cells #[.slice none 0 0, .int .i64 0, .bool false] 32 (0, 0)) = wa at HA HBX ⊢
    go_loopw [4] (fun i wr => ∃ (k : Nat) (v : Value), k ≤ n ∧ i = .int .i64 k ∧ Boxes w wr #[.slice a n c] #[.slice none 0 0, .int .i64 0, .bool false] #[v, .int .i64 0, .bool false] 65 32 ∧ ListL ownRow 88 (w.heap.size + 3) wr.heap.size wr v (listK f k)) (fun i _ => n - (intOf i).toNat)
    case atStart => exact ⟨0, .slice none 0 0, Nat.zero_le _, rfl, HBX.out, ListL.nil _ _ (Nat.le_refl _)⟩
    case round =>
      obtain ⟨k, v, hk, rfl, hbo, hli⟩ := hrel
      obtain ⟨av, cv, rfl, -, -⟩ := hli.form
      have hkl := listK_length f k
      rw [hkl] at hbo hli
      have hsz3 := hbo.size
      have hba := box1 hbo.a
      have HBO := Lib.hid hbo
      have HLI := Lib.hid hli
      obtain ⟨⟨d0, d1, d2⟩, f0, f1, f2⟩ := cellsG hbo.o
      obtain ⟨⟨z0, z1, z2⟩, y0, y1, y2⟩ := cellsG hbo.z
      have HN := Lib.hid (HM.out wr hbo.below)
      clear hbo hli
      by_cases hlt : k < n
      · go_wp2_with fail
        refine HN.out.mono ?_
        rintro e w1 ⟨rfl, hb⟩
        have hbo := HBO.out.call hb
        have hli := HLI.out.below hb (Nat.le_refl _)
        have hsz4 := hbo.size
        have HB1 := Lib.hid hbo
        clear d0 d1 d2 f0 f1 f2 z0 z1 z2 y0 y1 y2 hba HBO HLI HN
        obtain ⟨x, hx⟩ : ∃ x, m[k]? = some x := ⟨_, List.getElem?_eq_getElem (by rw [hlen]; exact hlt)⟩
        obtain ⟨b, o, es, rfl, hbB, hr, hs⟩ := HL.out.2 k x hx
        obtain ⟨ae, ne, ce, rfl, ge, le, me⟩ := shOp_reads.1 hs
        have hne : ne ≤ 36 := by
          have e1 := modelOk_small HQ.out k (by rw [hlen]; exact hlt)
          rw [opAt_get hx] at e1
          have e2 := me.1
          omega
        have hfk : f k = noughts ne := by
          rw [HF.out]
          show noughts (opAt m k).2.2.2.length = _
          rw [opAt_get hx]
          exact congrArg noughts me.1
        have HFK := Lib.hid hfk
        have hrr := rangeAt_kept hr (show b < w.heap.size from hbB) (Kept.of_below (I := Under w.heap.size) hbo.below fun b hb => hb)
        rw [shOp_size] at hrr
        have c3 : w1.cell? ⟨b, o + k * 4 + 3, none⟩ = some (.slice ae ne ce) := hrr 3 _ rfl
        have hba := box1 hbo.a
        obtain ⟨⟨d0, d1, d2⟩, f0, f1, f2⟩ := cellsG hbo.o
        clear hr hrr hs hx hfk hbB
        have hmk := run_make_many (P := Try.prog) 30 3 _ 1 8 Try.underlying30 Try.infoI64 ne (by omega) (by omega)
        have hm1 : Below w1.heap.size w1 (w1.alloc (.cells (madeCells #[.int .i64 0] ne) 3 (0, 0))).drew := ((Below.refl _ _).alloc (Nat.le_refl _) _).drew
        have hl2 := (hli.below hm1 (Nat.le_trans hli.top (Nat.le_refl _)) : ListL ownRow 88 (w.heap.size + 3) wr.heap.size (w1.alloc (.cells (madeCells #[.int .i64 0] ne) 3 (0, 0))).drew (.slice av k cv) (listK f k)).wide (hi' := w1.heap.size) (Nat.le_refl _) hli.top hm1.size
        obtain ⟨us, G, h1, h2, h3, h4, h5⟩ := hl2.all
        have hP : Hid (∀ (w4 : World) (g cap : Nat), w4.ownsRow (w.heap.size + 3) 88 1 (.slice (some ⟨g, 0, none⟩) (k + 1) cap) (k + 1) (us ++ [.slice (some ⟨w1.heap.size, 0, none⟩) ne ne]) → ((w1.alloc (.cells (madeCells #[.int .i64 0] ne) 3 (0, 0))).alloc (.cells #[.slice (some ⟨w1.heap.size, 0, none⟩) ne ne] 88 (0, 0))).drew.grownBy w4 (Value.slice av k cv).ownBlock →
            ((Value.slice av k cv).ownBlock = some g ∨ g = ((w1.alloc (.cells (madeCells #[.int .i64 0] ne) 3 (0, 0))).alloc (.cells #[.slice (some ⟨w1.heap.size, 0, none⟩) ne ne] 88 (0, 0))).drew.heap.size) → ListL ownRow 88 (w.heap.size + 3) w4.heap.size w4 (.slice (some ⟨g, 0, none⟩) (k + 1) cap) (listK f (k + 1)) ∧ Below (w.heap.size + 3) w1 w4) := Lib.hid fun w4 g cap ho hgr hat => by
          have hp := ListL.put (S := ownRow) (T := 88) (lo := w.heap.size + 3) (hi := w1.heap.size) (w := (w1.alloc (.cells (madeCells #[.int .i64 0] ne) 3 (0, 0))).drew) (w' := w4) (v := .slice av k cv) (v' := .slice (some ⟨g, 0, none⟩) (k + 1) cap) (xs := listK f k) (o := (.cells #[.slice (some ⟨w1.heap.size, 0, none⟩) ne ne] 88 (0, 0))) (x := noughts ne) (F := FromB w1.heap.size (w1.alloc (.cells (madeCells #[.int .i64 0] ne) 3 (0, 0))).heap.size)
            hsz4 h1 h2 hm1.size h3 h4 h5 (Row.ownRow (Row.made w1 ne (by omega))) (fun b o f => f) rfl (by rw [hkl]; exact ho) hgr (by
              rcases hat with e | e
              · exact .inl e.symm
              · exact .inr (congrArg some e))
          rw [← HFK.out] at hp
          exact ⟨hp.1, (hm1.mono hsz4).trans hp.2⟩
        rw [hkl] at h1
        have HRD : Hid (((w1.alloc (.cells (madeCells #[.int .i64 0] ne) 3 (0, 0))).alloc (.cells #[.slice (some ⟨w1.heap.size, 0, none⟩) ne ne] 88 (0, 0))).drew.ownsRow (w.heap.size + 3) 88 1 (.slice av k cv) k us) := Lib.hid (World.ownsRow.alloc (show (w1.alloc (.cells (madeCells #[.int .i64 0] ne) 3 (0, 0))).drew.ownsRow _ _ _ _ _ _ from h1) _)
        have HND : Hid (∀ j u, ([Value.slice (some ⟨w1.heap.size, 0, none⟩) ne ne] : List Value)[j]? = some u → ((w1.alloc (.cells (madeCells #[.int .i64 0] ne) 3 (0, 0))).alloc (.cells #[.slice (some ⟨w1.heap.size, 0, none⟩) ne ne] 88 (0, 0))).drew.cell? ((⟨w1.heap.size + 1, 0, none⟩ : Addr).add j) = some u) := Lib.hid (by
          have := heap_alloc_new (w1.alloc (.cells (madeCells #[.int .i64 0] ne) 3 (0, 0))) (.cells #[.slice (some ⟨w1.heap.size, 0, none⟩) ne ne] 88 (0, 0))
          rw [size_one'] at this
          exact World.news_of_block (w := ((w1.alloc (.cells (madeCells #[.int .i64 0] ne) 3 (0, 0))).alloc (.cells #[.slice (some ⟨w1.heap.size, 0, none⟩) ne ne] 88 (0, 0))).drew) this)
        have hm1' : Below w1.heap.size w1 (w1.alloc (.cells (madeCells #[.int .i64 0] ne) 3 (0, 0))) := (Below.refl _ _).alloc (Nat.le_refl _) _
        have hm2' : Below w1.heap.size w1 ((w1.alloc (.cells (madeCells #[.int .i64 0] ne) 3 (0, 0))).alloc (.cells #[.slice (some ⟨w1.heap.size, 0, none⟩) ne ne] 88 (0, 0))) := hm1'.alloc (by simp) _
        have dm0 := (hm1'.cell (p := ⟨w.heap.size + 1 + 1, 0, none⟩) (by show w.heap.size + 1 + 1 < _; omega)).trans d0
        have de0 := (hm2'.cell (p := ⟨w.heap.size + 1 + 1, 0, none⟩) (by show w.heap.size + 1 + 1 < _; omega)).trans d0
        have HBS : Hid (w.heap.size + 3 ≤ ((w1.alloc (.cells (madeCells #[.int .i64 0] ne) 3 (0, 0))).alloc (.cells #[.slice (some ⟨w1.heap.size, 0, none⟩) ne ne] 88 (0, 0))).drew.heap.size) := Lib.hid (by
          show _ ≤ ((w1.alloc (.cells (madeCells #[.int .i64 0] ne) 3 (0, 0))).alloc (.cells #[.slice (some ⟨w1.heap.size, 0, none⟩) ne ne] 88 (0, 0))).heap.size
          rw [size_one', size_one']
          omega)
        clear h1 h2 h3 h4 h5 hl2 hli hbo hm1 hm1' hm2' f1 f2
        go_wp2_with fail
        go_region_law (first
          | (refine step_append_lies _ rfl (.tmp 18) (.tmp 28) 29 rfl (w.heap.size + 3) 88 i0 (.agg #[.slice none 0 0]) 1 24 Try.underlying29 hi hz0 hz1 hz2 rfl (by decide) _ _ _ (by simp [Act.eval]) HRD.out ⟨w1.heap.size + 1, 0, none⟩ 1 1 [.slice (some ⟨w1.heap.size, 0, none⟩) ne ne] (by simp [Act.eval]) rfl HND.out (slices_one _ _ _) (by omega) (by unfold maxLen; omega) (by omega) HBS.out _ rfl ?_; intro g cap w4 hown4 hgrow4 hat4 _; obtain ⟨hli4, hb4⟩ := hP.out w4 g cap hown4 hgrow4 hat4; have hbo4 := HB1.out.far hb4; clear d0 d1 d2 f0 dm0 de0 hown4 hgrow4 hat4; obtain ⟨⟨d0, d1, d2⟩, f0, -, -⟩ := cellsG hbo4.o; have HLI4 := Lib.hid hli4; have HBO4 := Lib.hid hbo4; clear hli4 hbo4 hb4))
        all_goals
          go_wp2_with fail
          go_round
          case rel =>
            have hq := HBO4.out.store 0 (.slice (some ⟨g, 0, none⟩) (k + 1) cap)
            have hli := HLI4.out.stored (w.heap.size + 1 + 1) 0 (.slice (some ⟨g, 0, none⟩) (k + 1) cap) (by omega)
            exact ⟨k + 1, .slice (some ⟨g, 0, none⟩) (k + 1) cap, by omega, by go_num, by simpa using hq, by simpa using hli⟩
          case measure => simp [intOf]; omega
      · obtain rfl : k = n := by omega
        go_wp2_with fail
        refine bodyPost_ret (results_cell_row rfl _ _ (w.heap.size + 1) 32 #[.slice av k cv, .int .i64 0, .bool false] (0, 0) _ rfl ?_ Try.underlying32 rfl (by kernel_rfl)) rfl ?_
        · exact store3 HBO.out.z _ _ _
        · refine ⟨[.slice av k cv, .int .i64 0, .bool false], rfl, ?_, ((HBO.out.below.setCell (p := ⟨w.heap.size + 1, 0, none⟩) (by show _ ≤ w.heap.size + 1; omega) _).setCell (p := ⟨w.heap.size + 1, 1, none⟩) (by show _ ≤ w.heap.size + 1; omega) _).setCell (p := ⟨w.heap.size + 1, 2, none⟩) (by show _ ≤ w.heap.size + 1; omega) _⟩
          have hfin := ((HLI.out.stored (w.heap.size + 1) 0 (.slice av k cv) (by omega)).stored (w.heap.size + 1) 1 (.int .i64 0) (by omega)).stored (w.heap.size + 1) 2 (.bool false) (by omega)
          obtain ⟨a', cap, e1, e2, e3, e4⟩ := hfin.list (by decide)
          rw [hkl] at e1 e2 e4
          cases e1
          unfold zeroG
          rw [HZ.out]
          exact shGrads_reads.2 ⟨_, _, _, rfl, e2, e3, e4.listAt (fun b o f => ⟨by have := f.1; omega, by have := f.2; simpa using this⟩) (by decide)⟩
end Go.Proofs.Ytpnifgpmleaohaa

end

/-! YtpnifgpmleaohaaOwnI -/
section

namespace Go.Proofs.Ytpnifgpmleaohaa
open Go.RowKit
set_option linter.unusedVariables false

def ownIns : Owned dIns := .struct (.cons Owned.int (.last Owned.int))
theorem ownIns_size : ownIns.size = 2 := rfl
theorem ownIns_shape : ownIns.toShape = shIns := rfl
theorem ownIns_owns {F : Foot} {w : World} {cs : List Value} {d : dIns} : ownIns.owns F w cs d ↔ cs = [.int .i64 d.1, .int .i64 d.2] := by
  constructor
  · rintro ⟨_, _, _, _, rfl, rfl, rfl, -⟩
    rfl
  · rintro rfl
    exact ⟨_, _, fun _ _ => False, fun _ _ => False, rfl, rfl, rfl, fun _ _ h => h.elim, fun _ _ h => h.elim, fun _ _ h => h.elim⟩
theorem shIns_reads {I : Nat → Prop} {w : World} {cs : List Value} {d : dIns} : shIns.reads I w cs d ↔ cs = [.int .i64 d.1, .int .i64 d.2] := shTwo_reads
theorem shIns_bulk (d : dIns) : shIns.bulk d = 0 := rfl
/-- A row of pairs of the call's own is owned. -/
theorem TwoR.own {T : TypeId} {base : Nat} {w : World} {v : Value} {xs : List dIns} (h : TwoR T base w v xs) : (Owned.list ownIns (by decide)).owns (FromB base w.heap.size) w [v] xs := by
  have hcs := fun g (h' : v.ownBlock = some g) => World.ownsRow.cells h (g := g) h'
  have hlt := World.ownsRow.lt h
  rcases h.2 with ⟨rfl, hn⟩ | ⟨g, cap, cur, rfl, _, hg, hc, hm, hsz, _⟩
  · obtain rfl : xs = [] := List.eq_nil_of_length_eq_zero hn
    exact ⟨none, 0, 0, rfl, Nat.le_refl _, by omega, rfl, .inl rfl⟩
  · unfold maxLen at hm
    refine ⟨_, xs.length, cap, rfl, by omega, by omega, rfl, .inr ⟨g, 0, fun _ _ _ => False, rfl, fun i hi => hlt g rfl, fun j hj => ?_, fun j x hx => ?_, fun j b' o' f => f.elim, fun j j' _ b' o' f => f.elim⟩⟩
    · have hj' : j < xs.length * 2 := hj
      constructor
      · rw [Nat.zero_add, World.ownsRow.cellAt h j hj', List.getElem?_eq_getElem (by rw [tcells_length]; exact hj')]
        rfl
      · exact frozen_of_row _ _ _ _ _ hg
    · have hj := (List.getElem?_eq_some_iff.1 hx).1
      have hxe : xs.getD j (0, 0) = x := by rw [List.getD_eq_getElem?_getD, hx]; rfl
      refine ⟨[.int .i64 x.1, .int .i64 x.2], fun i v hv => ?_, ownIns_owns.2 rfl⟩
      have e0 := hcs g rfl _ _ (tcells_get0 xs j hj)
      have e1 := hcs g rfl _ _ (tcells_get1 xs j hj)
      rw [Addr.add_lit, hxe] at e0 e1
      match i, hv with
      | 0, hv => cases hv; simpa [ownIns_size] using e0
      | 1, hv => cases hv; simpa [ownIns_size] using e1
      | i + 2, hv => simp at hv
theorem toInsS_o (w : World) (B : Nat) (a : Option Addr) (n c : Nat) (xs : List dIns) (h : ListAt shIns (Under B) w a n xs) (hB : B ≤ w.heap.size) (hb : (Shape.list shIns).bulk xs ≤ 1048576) :
    Calls Try.prog 11 #[.slice a n c] w fun e w' => e = .returned (.slice (some ⟨w.heap.size, 0, none⟩) n n) ∧ OwnList ownIns (FromB w.heap.size w'.heap.size) w' (some ⟨w.heap.size, 0, none⟩) n xs ∧ Below w.heap.size w w' := by
  refine (toInsS_any w.heap.size w a n c xs (h.twoIn hB hb) (Nat.le_refl _)).mono ?_
  rintro e w' ⟨rfl, hr, hbw⟩
  obtain ⟨a', n', c', e', _, _, hr'⟩ := TwoR.own hr
  cases e'
  exact ⟨rfl, hr', hbw⟩
theorem sum_ins : ∀ xs : List dIns, Shape.sum ownIns.ct xs = 2 * xs.length
  | [] => rfl
  | x :: l => by
    have e : Shape.sum ownIns.ct (x :: l) = ownIns.ct x + Shape.sum ownIns.ct l := rfl
    rw [e, sum_ins l, List.length_cons]
    show 2 + _ = _
    omega
theorem few_InsS (xs : List dIns) : Shape.sum ownIns.ct xs ≤ 16 * (Shape.list shIns).bulk xs := by
  rw [sum_ins, bulk_ins]
  omega
end Go.Proofs.Ytpnifgpmleaohaa

end

/-! YtpnifgpmleaohaaMarkI -/
section

namespace Go.Proofs.Ytpnifgpmleaohaa
open Go.RowKit
set_option linter.unusedVariables false
set_option linter.unusedSimpArgs false


set_option maxRecDepth 100000 in
set_option maxHeartbeats 3200000 in
theorem markInsS_o (w : World) (F : Foot) (a : Option Addr) (n c : Nat) (xs : List dIns) (k0 : Int) (h : OwnList ownIns F w a n xs) (hb : (Shape.list shIns).bulk xs ≤ 1048576) (hk0 : 0 ≤ k0) (hc : k0 + (Shape.sum ownIns.ct xs : Nat) ≤ 4611686018427387904) :
    Calls Try.prog 17 #[.slice a n c, .int .i64 k0] w fun e w' => e = .returned (.int .i64 (k0 + (Shape.sum ownIns.ct xs : Nat))) ∧ OwnList ownIns F w' a n (Owned.mkL ownIns.mark ownIns.ct xs k0) ∧ Touched F w w' := by
  have hlen := h.1
  have hbs : n + Shape.sum shIns.bulk xs ≤ 1048576 := by rw [← hlen]; exact hb
  have hn1 : n ≤ 1048576 := by omega
  have HB : Hid (Shape.sum shIns.bulk xs ≤ 1048576) := Lib.hid (by omega)
  clear hbs
  have HC := Lib.hid hc
  have HLEN := Lib.hid hlen
  obtain ⟨R, hR⟩ : ∃ R : Int, k0 + (Shape.sum ownIns.ct xs : Nat) = R := ⟨_, rfl⟩
  rw [hR]
  have HR := Lib.hid hR
  by_cases hn : 0 < n
  · obtain ⟨b, o, G, rfl, hm⟩ := h.marking hn
    have HM := Lib.hid hm
    clear h hb hc hlen hm hR
    go_enter Try.func17, Try.ntmps17
    go_wp2_with fail
    go_loopw [5, 1] (fun i k wr => ∃ (j : Nat) (V : Int), j ≤ n ∧ i = .int .i64 j ∧ k = .int .i64 V ∧ Hid (V = k0 + (Shape.sum ownIns.ct (xs.take j) : Nat)) ∧ Marking ownIns F w wr b o n G (part ownIns.mark ownIns.ct xs k0 j)) (fun i _ _ => n - (intOf i).toNat)
    case atStart => exact ⟨0, k0, Nat.zero_le _, rfl, rfl, Lib.hid (by simp [Shape.sum]), by rw [part_zero]; exact HM.out⟩
    case round =>
      obtain ⟨j, V, hj, rfl, rfl, hV, hmk⟩ := hrel
      by_cases hlt : j < n
      · obtain ⟨x, hx⟩ : ∃ x, xs[j]? = some x := ⟨_, List.getElem?_eq_getElem (by rw [HLEN.out]; exact hlt)⟩
        have hy := (part_get ownIns.mark ownIns.ct xs k0 j (by rw [HLEN.out]; exact hj)).trans hx
        obtain ⟨es, hr, hs⟩ := hmk.elems j x hy
        have hG := hmk.inF j
        have hst := sum_take ownIns.ct xs j x hx
        have hsl := sum_take_le ownIns.ct xs (j + 1)
        have hV0 : 0 ≤ V := by rw [hV.out]; omega
        have hVc : V + (ownIns.ct x : Nat) ≤ 4611686018427387904 := by have h1 := HC.out; have h2 := hV.out; omega
        have hbx : shIns.bulk x ≤ 1048576 := by have h1 := bulk_mem shIns.bulk xs j x hx; have h2 := HB.out; omega
        have HST := Lib.hid hst
        have HX := Lib.hid hx
        have HMK := Lib.hid hmk
        have hp : Placing b (o + j * ownIns.size) ownIns.size (G j) wr wr es := ⟨Touched.refl _ _, there_part hmk.there (by omega) (by have := place_le (s := ownIns.size) hlt; omega), hr, ownIns.owns_len hs⟩
        obtain ⟨rfl⟩ := ownIns_owns.1 hs
        rw [ownIns_size] at hp
        have hA : ∀ b' o', G j b' o' → ¬ Cells b (o + j * 2) 2 b' o' := fun b' o' g c => (hG b' o' g).2 ⟨c.1, by have := c.2.1; omega, by have := place_le (s := 2) hlt; have h3 := c.2.2; rw [ownIns_size]; omega⟩
        rw [shIns_bulk] at hbx
        have hct : ownIns.ct x = 2 := by simp only [ownIns, Owned.struct, OwnedFields.cons, OwnedFields.last, Owned.int, Owned.bool, Owned.list] <;> omega
        rw [hct] at hVc
        have c0 := hp.range 0 _ rfl
        have f0 := (hp.there 0 (by omega)).2
        have c1 := hp.range 1 _ rfl
        have f1 := (hp.there 1 (by omega)).2
        simp only [Nat.add_zero] at c0 f0
        have hpe := ((hp.store 0 (by omega) (.int .i64 (V))).store 1 (by omega) (.int .i64 (V + 1)))
        have hown := ownIns_owns (F := G j) (w := ((wr.setCell ⟨b, o + j * 2, none⟩ (.int .i64 (V))).setCell ⟨b, o + j * 2 + 1, none⟩ (.int .i64 (V + 1)))) (d := ((V), (V + 1))).2 rfl
        have hmv : ownIns.mark x V = ((V), (V + 1)) := by
          simp only [ownIns, Owned.struct, OwnedFields.cons, OwnedFields.last, Owned.int, Owned.bool, Owned.list]
          try simp
          try (refine ⟨?_, ?_⟩ <;> rfl)
        have hN := HMK.out.step (k := j) (es' := _) hlt (by rw [ownIns_size]; exact hpe.touched) (by rw [ownIns_size]; exact hpe.range) hown
        have hps : part ownIns.mark ownIns.ct xs k0 (j + 1) = (part ownIns.mark ownIns.ct xs k0 j).set j (ownIns.mark x V) := by
          rw [hV.out]
          exact part_succ ownIns.mark ownIns.ct xs k0 j x HX.out
        rw [← hmv, ← hps] at hN
        have HN := Lib.hid hN
        clear hN hown hmv 
        go_wp2_with fail
        go_round
        case rel => exact ⟨j + 1, _, by omega, by go_num, rfl, Lib.hid (by have e1 := HST.out; have e2 := hV.out;  rw [e1]; rw [hct]; omega), HN.out⟩
        case measure => simp [intOf]; omega
      · obtain rfl : j = n := by omega
        have hVR : V = R := by
          have e1 := hV.out
          rw [List.take_of_length_le (by rw [HLEN.out]; exact Nat.le_refl _), HR.out] at e1
          exact e1
        subst hVR
        have hfin := hmk.own
        rw [← HLEN.out, part_all] at hfin
        rw [HLEN.out] at hfin
        have HF := Lib.hid hfin
        have HT := Lib.hid hmk.touched
        clear hmk hfin
        go_wp2_with fail
        go_ret
        exact ⟨rfl, HF.out, HT.out⟩
  · obtain rfl : n = 0 := by omega
    obtain rfl : xs = [] := List.eq_nil_of_length_eq_zero hlen
    have hR0 : R = k0 := by rw [← hR]; simp [Shape.sum]
    subst hR0
    clear h hb hc hR HR HC
    go_enter Try.func17, Try.ntmps17
    go_wp2_with fail
    go_loop [5, 1] (fun i k => i = .int .i64 0 ∧ k = .int .i64 R) (fun _ _ => 0)
    case atStart => exact ⟨rfl, rfl⟩
    case round =>
      obtain ⟨rfl, rfl⟩ := hrel
      go_wp2_with fail
      go_ret
      exact ⟨rfl, ⟨rfl, .inl rfl⟩, Touched.refl _ _⟩
set_option maxRecDepth 100000 in
set_option maxHeartbeats 1600000 in
theorem heldInsS_o (w : World) (B : Nat) (a : Option Addr) (n c : Nat) (xs : List dIns) (k0 : Int) (h : ListAt shIns (Under B) w a n (Owned.mkL ownIns.mark ownIns.ct xs k0)) (hb : (Shape.list shIns).bulk xs ≤ 1048576) (hk0 : 0 ≤ k0) (hc : k0 + (Shape.sum ownIns.ct xs : Nat) ≤ 4611686018427387904) :
    Calls Try.prog 49 #[.slice a n c, .int .i64 k0] w fun e w' => e = .returned (.int .i64 (k0 + (Shape.sum ownIns.ct xs : Nat))) ∧ w = w' := by
  have hlen : xs.length = n := by rw [← h.1, Owned.mkL_length]
  have hbs : n + Shape.sum shIns.bulk xs ≤ 1048576 := by rw [← hlen]; exact hb
  have hn1 : n ≤ 1048576 := by omega
  have HB : Hid (Shape.sum shIns.bulk xs ≤ 1048576) := Lib.hid (by omega)
  have HC := Lib.hid hc
  have HLEN := Lib.hid hlen
  have HL := Lib.hid h
  obtain ⟨R, hR⟩ : ∃ R : Int, k0 + (Shape.sum ownIns.ct xs : Nat) = R := ⟨_, rfl⟩
  rw [hR]
  have HR := Lib.hid hR
  clear h hb hc hlen hR hbs
  go_enter Try.func49, Try.ntmps49
  go_wp2_with fail
  go_loop [5, 1] (fun i k => ∃ (j : Nat) (V : Int), j ≤ n ∧ i = .int .i64 j ∧ k = .int .i64 V ∧ Hid (V = k0 + (Shape.sum ownIns.ct (xs.take j) : Nat))) (fun i _ => n - (intOf i).toNat)
  case atStart => exact ⟨0, k0, Nat.zero_le _, rfl, rfl, Lib.hid (by simp [Shape.sum])⟩
  case round =>
    obtain ⟨j, V, hj, rfl, rfl, hV⟩ := hrel
    by_cases hlt : j < n
    · obtain ⟨x, hx⟩ : ∃ x, xs[j]? = some x := ⟨_, List.getElem?_eq_getElem (by rw [HLEN.out]; exact hlt)⟩
      obtain ⟨b, o, es, rfl, hbB, hr, hs⟩ := HL.out.2 j _ (mkL_get ownIns.mark ownIns.ct xs k0 j x hx)
      have hst := sum_take ownIns.ct xs j x hx
      have hsl := sum_take_le ownIns.ct xs (j + 1)
      have hV0 : 0 ≤ V := by rw [hV.out]; omega
      have hVc : V + (ownIns.ct x : Nat) ≤ 4611686018427387904 := by have h1 := HC.out; have h2 := hV.out; omega
      have hbx : shIns.bulk x ≤ 1048576 := by have h1 := bulk_mem shIns.bulk xs j x hx; have h2 := HB.out; omega
      have HST := Lib.hid hst
      rw [← hV.out] at hs
      obtain ⟨rfl⟩ := shIns_reads.1 hs
      rw [shIns_size] at hr
      rw [shIns_bulk] at hbx
      have hct : ownIns.ct x = 2 := by simp only [ownIns, Owned.struct, OwnedFields.cons, OwnedFields.last, Owned.int, Owned.bool, Owned.list] <;> omega
      rw [hct] at hVc
      have c0 := hr 0 _ rfl
      have c1 := hr 1 _ rfl
      simp only [Nat.add_zero] at c0
      replace c0 : w.cell? ⟨b, o + j * 2, none⟩ = some (.int .i64 (V)) := by
        have := c0
        simpa [ownIns, Owned.struct, OwnedFields.cons, OwnedFields.last, Owned.int, Owned.bool, Owned.list, Int.add_assoc] using this
      replace c1 : w.cell? ⟨b, o + j * 2 + 1, none⟩ = some (.int .i64 (V + 1)) := by
        have := c1
        simpa [ownIns, Owned.struct, OwnedFields.cons, OwnedFields.last, Owned.int, Owned.bool, Owned.list, Int.add_assoc] using this
      clear hs  hx hr
      go_wp2_with fail
      go_round
      case rel => exact ⟨j + 1, _, by omega, by go_num, rfl, Lib.hid (by have e1 := HST.out; have e2 := hV.out;  rw [e1]; rw [hct]; omega)⟩
      case measure => simp [intOf]; omega
    · obtain rfl : j = n := by omega
      have hVR : V = R := by
        have e1 := hV.out
        rw [List.take_of_length_le (by rw [HLEN.out]; exact Nat.le_refl _), HR.out] at e1
        exact e1
      subst hVR
      go_wp2_with fail
      go_ret
      exact ⟨rfl, rfl⟩
end Go.Proofs.Ytpnifgpmleaohaa

end

/-! YtpnifgpmleaohaaOwnS -/
section

namespace Go.Proofs.Ytpnifgpmleaohaa
open Go.RowKit Go.Sort
set_option linter.unusedVariables false
set_option linter.unusedSimpArgs false


def ownSaved : Owned dSaved := .struct (.cons Owned.int (.last (Owned.list ownRow (by decide))))
theorem ownSaved_size : ownSaved.size = 2 := rfl
theorem ownSaved_shape : ownSaved.toShape = shSaved := rfl
theorem ownSaved_owns {F : Foot} {w : World} {cs : List Value} {d : dSaved} : ownSaved.owns F w cs d ↔ ∃ a0 n0 c0, cs = [.int .i64 d.1, .slice a0 n0 c0] ∧ (n0 ≤ c0 ∧ c0 ≤ 9223372036854775807 ∧ OwnList ownRow F w a0 n0 d.2) := by
  constructor
  · rintro ⟨_, _, A0, B0, rfl, rfl, ⟨a0, n0, c0, rfl, x0, y0, l0⟩, s0, t0, p0⟩
    exact ⟨a0, n0, c0, rfl, x0, y0, l0.sub fun b o g => t0 _ _ (g)⟩
  · rintro ⟨a0, n0, c0, rfl, x0, y0, l0⟩
    exact ⟨_, _, (fun _ _ => False), F, rfl, rfl, ⟨a0, n0, c0, rfl, x0, y0, l0⟩, fun _ _ g => g.elim, fun _ _ g => g, fun _ _ g => g.elim⟩
set_option maxRecDepth 100000 in
set_option maxHeartbeats 800000 in
theorem toSaved_o (w : World) (B : Nat) (es : List Value) (x : dSaved) (h : shSaved.reads (Under B) w es x) (hB : B ≤ w.heap.size) (hb : shSaved.bulk x ≤ 1048576) :
    Calls Try.prog 75 #[.agg es.toArray] w fun e w' => ∃ es', e = .returned (.agg es'.toArray) ∧ ownSaved.owns (FromB w.heap.size w'.heap.size) w' es' x ∧ Below w.heap.size w w' := by
  obtain ⟨a0, n0, c0, rfl, ⟨p0, r0, l0⟩⟩ := shSaved_reads.1 h
  rw [shSaved_bulk] at hb
  have m0 : n0 ≤ 1048576 := by have := bulk_list shRow l0; omega
  have H0 := Lib.hid fun (w1 : World) (hbw : Below w.heap.size w w1) => toRowS_o w1 B a0 n0 c0 _ (l0.below hbw hB) (Nat.le_trans hB hbw.size) (by omega)
  have hbx := Boxes.start w #[.int .i64 x.1, .slice a0 n0 c0] #[.int .i64 0, .slice none 0 0] #[.int .i64 x.1, .slice none 0 0] 109 90
  clear h hb l0 r0 p0
  go_enter Try.func75, Try.ntmps75
  go_wp2_with fail
  generalize ((w.alloc (.cells #[.int .i64 x.1, .slice a0 n0 c0] 109 (0, 0))).alloc (.cells #[.int .i64 0, .slice none 0 0] 90 (0, 0))).alloc (.cells #[.int .i64 x.1, .slice none 0 0] 90 (0, 0)) = v0 at hbx ⊢
  have BX0 := Lib.hid hbx
  clear hbx
  refine (H0.out v0 BX0.out.below).mono ?_
  rintro e w1 ⟨rfl, hr0, hb0⟩
  have hbx := BX0.out.call hb0
  have sb0 := hb0.size
  have hlt0 := BX0.out.size
  have za0_0 : w1.cell? ⟨w.heap.size, 0, none⟩ = _ := cell_of_row _ _ _ _ _ _ hbx.a
  have za0_1 : w1.cell? ⟨w.heap.size, 1, none⟩ = _ := cell_of_row _ _ _ _ _ _ hbx.a
  have zo0_0 : w1.cell? ⟨w.heap.size + 1 + 1, 0, none⟩ = _ := cell_of_row _ _ _ _ _ _ hbx.o
  have zo0_1 : w1.cell? ⟨w.heap.size + 1 + 1, 1, none⟩ = _ := cell_of_row _ _ _ _ _ _ hbx.o
  have zr0_0 : w1.cell? ⟨w.heap.size + 1, 0, none⟩ = _ := cell_of_row _ _ _ _ _ _ hbx.z
  have zr0_1 : w1.cell? ⟨w.heap.size + 1, 1, none⟩ = _ := cell_of_row _ _ _ _ _ _ hbx.z
  have fo0_0 : w1.frozen? ⟨w.heap.size + 1 + 1, 0, none⟩ = false := frozen_of_row _ _ _ _ _ hbx.o
  have fr0_0 : w1.frozen? ⟨w.heap.size + 1, 0, none⟩ = false := frozen_of_row _ _ _ _ _ hbx.z
  have fo0_1 : w1.frozen? ⟨w.heap.size + 1 + 1, 1, none⟩ = false := frozen_of_row _ _ _ _ _ hbx.o
  have fr0_1 : w1.frozen? ⟨w.heap.size + 1, 1, none⟩ = false := frozen_of_row _ _ _ _ _ hbx.z
  simp only [List.setIfInBounds_toArray, List.set_cons_zero, List.set_cons_succ, List.getElem?_toArray, List.getElem?_cons_zero, List.getElem?_cons_succ] at za0_0 zo0_0 zr0_0 za0_1 zo0_1 zr0_1
  have N0_0 := hr0
  have hby := (hbx.store 1 (.slice (some ⟨v0.heap.size, 0, none⟩) n0 n0))
  have O0_0 := (N0_0.stored (w.heap.size + 1 + 1) 1 (.slice (some ⟨v0.heap.size, 0, none⟩) n0 n0) (by omega))
  replace hby := Lib.hid hby
  replace O0_0 := Lib.hid O0_0
  clear N0_0
  clear hr0 hbx hb0
  go_wp2_with fail
  refine bodyPost_ret (results_cell_row rfl _ _ (w.heap.size + 1) 90 #[.int .i64 x.1, .slice (some ⟨v0.heap.size, 0, none⟩) n0 n0] (0, 0) _ rfl ?_ Try.underlying90 rfl (by kernel_rfl)) rfl ?_
  · exact hby.out.result [.int .i64 x.1, .slice (some ⟨v0.heap.size, 0, none⟩) n0 n0] rfl
  refine ⟨[.int .i64 x.1, .slice (some ⟨v0.heap.size, 0, none⟩) n0 n0], rfl, ?_, hby.out.last [.int .i64 x.1, .slice (some ⟨v0.heap.size, 0, none⟩) n0 n0]⟩
  have hfin := ownSaved_owns (F := FromB v0.heap.size w1.heap.size).2 ⟨_, _, _, rfl, Nat.le_refl _, by omega, (O0_0.out.storedAll (w.heap.size + 1) 0 [.int .i64 x.1, .slice (some ⟨v0.heap.size, 0, none⟩) n0 n0] (by omega))⟩
  exact ownSaved.owns_sub hfin fun b o f => ⟨by have := f.1; omega, by have h2 := f.2; simp; omega⟩
set_option maxRecDepth 100000 in
set_option maxHeartbeats 1600000 in
theorem toSavedS_o (w : World) (B : Nat) (a : Option Addr) (n c : Nat) (xs : List dSaved) (h : ListAt shSaved (Under B) w a n xs) (hB : B ≤ w.heap.size) (hb : (Shape.list shSaved).bulk xs ≤ 1048576) :
    Calls Try.prog 28 #[.slice a n c] w fun e w' => e = .returned (.slice (some ⟨w.heap.size, 0, none⟩) n n) ∧ OwnList ownSaved (FromB w.heap.size w'.heap.size) w' (some ⟨w.heap.size, 0, none⟩) n xs ∧ Below w.heap.size w w' := by
  have hbk : (Shape.list shSaved).bulk xs = n + Shape.sum shSaved.bulk xs := by rw [← h.1]; rfl
  rw [hbk] at hb
  have hmk := run_make_many (P := Try.prog) 28 90 _ 2 32 Try.underlying28 infoAll_Saved n (by omega) (by omega)
  have hst := OFilled.start ownSaved w n xs (Value.agg #[.int .i64 0, .slice none 0 0]).cells 90
  replace hst := Lib.hid hst
  have HL := Lib.hid h
  have HB := Lib.hid hb
  have hn1 : n ≤ 1048576 := by omega
  clear hbk h hb
  go_enter Try.func28, Try.ntmps28
  go_wp2_with fail
  go_loopw [4] (fun i wr => ∃ k : Nat, k ≤ n ∧ i = .int .i64 k ∧ OFilled ownSaved w wr n k xs) (fun i _ => n - (intOf i).toNat)
  case atStart => exact ⟨0, Nat.zero_le _, rfl, hst.out⟩
  case round =>
    obtain ⟨k, hk, rfl, hf⟩ := hrel
    by_cases hlt : k < n
    · obtain ⟨x, hx⟩ : ∃ x, xs[k]? = some x := ⟨_, List.getElem?_eq_getElem (by rw [HL.out.1]; exact hlt)⟩
      obtain ⟨b, o, es, rfl, hbB, hr, hs⟩ := HL.out.2 k x hx
      have hfb := hf.below
      have hfl := hf.lt
      have hth0 := hf.rest (Nat.le_of_lt hlt)
      have hrr := rangeAt_kept hr (show b < w.heap.size from Nat.lt_of_lt_of_le hbB hB) (Kept.of_below (I := Under w.heap.size) hfb fun b hb => hb)
      have HS := Lib.hid (toSaved_o wr _ es x (shSaved.below (shSaved.le hs hB) hfb (Nat.le_refl _)) (Nat.le_of_lt hfl) (by have h1 := bulk_mem shSaved.bulk xs k x hx; have h2 := HB.out; omega))
      have HF := Lib.hid hf
      have HX := Lib.hid hx
      have HT := Lib.hid hth0
      obtain ⟨ae0, ne0, ce0, rfl, -⟩ := shSaved_reads.1 hs
      rw [shSaved_size] at hrr
      have c0 := hrr 0 _ rfl
      have c1 := hrr 1 _ rfl
      simp only [Nat.add_zero] at c0
      try dsimp only at c0 c1 HS
      clear hr hrr hs hx hf hth0
      go_wp2_with fail
      clear c0 c1
      refine HS.out.mono ?_
      rintro e w1 ⟨es', rfl, hs', hb1⟩
      have hn4 : 2 ≤ (n - k) * ownSaved.size := by rw [ownSaved_size]; omega
      have hth := there_below HT.out hb1 hfl
      have hN := HF.out.step hlt hb1 HX.out hs'
      have HN := Lib.hid hN
      have HB1 := Lib.hid hb1
      obtain ⟨af0, nf0, cf0, rfl, -⟩ := ownSaved_owns.1 hs'
      obtain ⟨⟨v0, d0⟩, f0⟩ := there_cell hth 0 (by omega)
      obtain ⟨⟨v1, d1⟩, f1⟩ := there_cell hth 1 (by omega)
      rw [ownSaved_size] at d0 d1 f0 f1
      simp only [Nat.add_zero] at d0 f0
      clear hs' hb1 hth hN
      go_wp2_with fail
      go_round
      case rel => exact ⟨k + 1, by omega, by go_num, HN.out⟩
      case measure => simp [intOf]; omega
    · obtain rfl : k = n := by omega
      have hz := hf.below
      have HF := Lib.hid hf
      clear hf hz
      go_wp2_with fail
      go_ret
      exact ⟨rfl, HF.out.list HL.out.1, HF.out.below⟩
def ownStage : Owned dStage := .struct (.cons Owned.int (.cons (Owned.list ownIns (by decide)) (.cons (Owned.list ownOp (by decide)) (.cons Owned.bool (.cons Owned.bool (.cons (Owned.list ownSaved (by decide)) (.cons (Owned.list ownRow (by decide)) (.cons (Owned.list Owned.int (by decide)) (.cons (Owned.list Owned.int (by decide)) (.cons (Owned.list Owned.int (by decide)) (.cons (Owned.list Owned.int (by decide)) (.last ownGrads))))))))))))
theorem ownStage_size : ownStage.size = 14 := rfl
theorem ownStage_shape : ownStage.toShape = shStage := rfl
theorem ownStage_owns {F : Foot} {w : World} {cs : List Value} {d : dStage} : ownStage.owns F w cs d ↔ ∃ a0 n0 c0 a1 n1 c1 a2 n2 c2 a3 n3 c3 a4 n4 c4 a5 n5 c5 a6 n6 c6 a7 n7 c7 a8 n8 c8, ∃ G0 G1 G2 G3 G4 G5 G6 G7 G8 : Foot, cs = [.int .i64 d.1, .slice a0 n0 c0, .slice a1 n1 c1, .bool d.2.2.2.1, .bool d.2.2.2.2.1, .slice a2 n2 c2, .slice a3 n3 c3, .slice a4 n4 c4, .slice a5 n5 c5, .slice a6 n6 c6, .slice a7 n7 c7, .slice a8 n8 c8, .int .i64 d.2.2.2.2.2.2.2.2.2.2.2.2.1, .bool d.2.2.2.2.2.2.2.2.2.2.2.2.2] ∧ (n0 ≤ c0 ∧ c0 ≤ 9223372036854775807 ∧ OwnList ownIns G0 w a0 n0 d.2.1) ∧ (n1 ≤ c1 ∧ c1 ≤ 9223372036854775807 ∧ OwnList ownOp G1 w a1 n1 d.2.2.1) ∧ (n2 ≤ c2 ∧ c2 ≤ 9223372036854775807 ∧ OwnList ownSaved G2 w a2 n2 d.2.2.2.2.2.1) ∧ (n3 ≤ c3 ∧ c3 ≤ 9223372036854775807 ∧ OwnList ownRow G3 w a3 n3 d.2.2.2.2.2.2.1) ∧ (n4 ≤ c4 ∧ c4 ≤ 9223372036854775807 ∧ OwnList Owned.int G4 w a4 n4 d.2.2.2.2.2.2.2.1) ∧ (n5 ≤ c5 ∧ c5 ≤ 9223372036854775807 ∧ OwnList Owned.int G5 w a5 n5 d.2.2.2.2.2.2.2.2.1) ∧ (n6 ≤ c6 ∧ c6 ≤ 9223372036854775807 ∧ OwnList Owned.int G6 w a6 n6 d.2.2.2.2.2.2.2.2.2.1) ∧ (n7 ≤ c7 ∧ c7 ≤ 9223372036854775807 ∧ OwnList Owned.int G7 w a7 n7 d.2.2.2.2.2.2.2.2.2.2.1) ∧ (n8 ≤ c8 ∧ c8 ≤ 9223372036854775807 ∧ OwnList ownRow G8 w a8 n8 d.2.2.2.2.2.2.2.2.2.2.2.1) ∧ (∀ b o, G0 b o → F b o) ∧ (∀ b o, G1 b o → F b o) ∧ (∀ b o, G2 b o → F b o) ∧ (∀ b o, G3 b o → F b o) ∧ (∀ b o, G4 b o → F b o) ∧ (∀ b o, G5 b o → F b o) ∧ (∀ b o, G6 b o → F b o) ∧ (∀ b o, G7 b o → F b o) ∧ (∀ b o, G8 b o → F b o) ∧ Apart G0 G1 ∧ Apart G0 G2 ∧ Apart G0 G3 ∧ Apart G0 G4 ∧ Apart G0 G5 ∧ Apart G0 G6 ∧ Apart G0 G7 ∧ Apart G0 G8 ∧ Apart G1 G2 ∧ Apart G1 G3 ∧ Apart G1 G4 ∧ Apart G1 G5 ∧ Apart G1 G6 ∧ Apart G1 G7 ∧ Apart G1 G8 ∧ Apart G2 G3 ∧ Apart G2 G4 ∧ Apart G2 G5 ∧ Apart G2 G6 ∧ Apart G2 G7 ∧ Apart G2 G8 ∧ Apart G3 G4 ∧ Apart G3 G5 ∧ Apart G3 G6 ∧ Apart G3 G7 ∧ Apart G3 G8 ∧ Apart G4 G5 ∧ Apart G4 G6 ∧ Apart G4 G7 ∧ Apart G4 G8 ∧ Apart G5 G6 ∧ Apart G5 G7 ∧ Apart G5 G8 ∧ Apart G6 G7 ∧ Apart G6 G8 ∧ Apart G7 G8 := by
  constructor
  · rintro ⟨_, _, A0, B0, rfl, rfl, ⟨_, _, A1, B1, rfl, ⟨a0, n0, c0, rfl, x0, y0, l0⟩, ⟨_, _, A2, B2, rfl, ⟨a1, n1, c1, rfl, x1, y1, l1⟩, ⟨_, _, A3, B3, rfl, rfl, ⟨_, _, A4, B4, rfl, rfl, ⟨_, _, A5, B5, rfl, ⟨a2, n2, c2, rfl, x2, y2, l2⟩, ⟨_, _, A6, B6, rfl, ⟨a3, n3, c3, rfl, x3, y3, l3⟩, ⟨_, _, A7, B7, rfl, ⟨a4, n4, c4, rfl, x4, y4, l4⟩, ⟨_, _, A8, B8, rfl, ⟨a5, n5, c5, rfl, x5, y5, l5⟩, ⟨_, _, A9, B9, rfl, ⟨a6, n6, c6, rfl, x6, y6, l6⟩, ⟨_, _, A10, B10, rfl, ⟨a7, n7, c7, rfl, x7, y7, l7⟩, g8, s10, t10, p10⟩, s9, t9, p9⟩, s8, t8, p8⟩, s7, t7, p7⟩, s6, t6, p6⟩, s5, t5, p5⟩, s4, t4, p4⟩, s3, t3, p3⟩, s2, t2, p2⟩, s1, t1, p1⟩, s0, t0, p0⟩
    obtain ⟨a8, n8, c8, rfl, x8, y8, l8⟩ := ownGrads_owns.1 g8
    exact ⟨a0, n0, c0, a1, n1, c1, a2, n2, c2, a3, n3, c3, a4, n4, c4, a5, n5, c5, a6, n6, c6, a7, n7, c7, a8, n8, c8, A1, A2, A5, A6, A7, A8, A9, A10, B10, rfl, ⟨x0, y0, l0⟩, ⟨x1, y1, l1⟩, ⟨x2, y2, l2⟩, ⟨x3, y3, l3⟩, ⟨x4, y4, l4⟩, ⟨x5, y5, l5⟩, ⟨x6, y6, l6⟩, ⟨x7, y7, l7⟩, ⟨x8, y8, l8⟩, fun b o g => t0 _ _ (s1 _ _ (g)), fun b o g => t0 _ _ (t1 _ _ (s2 _ _ (g))), fun b o g => t0 _ _ (t1 _ _ (t2 _ _ (t3 _ _ (t4 _ _ (s5 _ _ (g)))))), fun b o g => t0 _ _ (t1 _ _ (t2 _ _ (t3 _ _ (t4 _ _ (t5 _ _ (s6 _ _ (g))))))), fun b o g => t0 _ _ (t1 _ _ (t2 _ _ (t3 _ _ (t4 _ _ (t5 _ _ (t6 _ _ (s7 _ _ (g)))))))), fun b o g => t0 _ _ (t1 _ _ (t2 _ _ (t3 _ _ (t4 _ _ (t5 _ _ (t6 _ _ (t7 _ _ (s8 _ _ (g))))))))), fun b o g => t0 _ _ (t1 _ _ (t2 _ _ (t3 _ _ (t4 _ _ (t5 _ _ (t6 _ _ (t7 _ _ (t8 _ _ (s9 _ _ (g)))))))))), fun b o g => t0 _ _ (t1 _ _ (t2 _ _ (t3 _ _ (t4 _ _ (t5 _ _ (t6 _ _ (t7 _ _ (t8 _ _ (t9 _ _ (s10 _ _ (g))))))))))), fun b o g => t0 _ _ (t1 _ _ (t2 _ _ (t3 _ _ (t4 _ _ (t5 _ _ (t6 _ _ (t7 _ _ (t8 _ _ (t9 _ _ (t10 _ _ (g))))))))))), fun b o g g' => p1 _ _ g (s2 _ _ (g')), fun b o g g' => p1 _ _ g (t2 _ _ (t3 _ _ (t4 _ _ (s5 _ _ (g'))))), fun b o g g' => p1 _ _ g (t2 _ _ (t3 _ _ (t4 _ _ (t5 _ _ (s6 _ _ (g')))))), fun b o g g' => p1 _ _ g (t2 _ _ (t3 _ _ (t4 _ _ (t5 _ _ (t6 _ _ (s7 _ _ (g'))))))), fun b o g g' => p1 _ _ g (t2 _ _ (t3 _ _ (t4 _ _ (t5 _ _ (t6 _ _ (t7 _ _ (s8 _ _ (g')))))))), fun b o g g' => p1 _ _ g (t2 _ _ (t3 _ _ (t4 _ _ (t5 _ _ (t6 _ _ (t7 _ _ (t8 _ _ (s9 _ _ (g'))))))))), fun b o g g' => p1 _ _ g (t2 _ _ (t3 _ _ (t4 _ _ (t5 _ _ (t6 _ _ (t7 _ _ (t8 _ _ (t9 _ _ (s10 _ _ (g')))))))))), fun b o g g' => p1 _ _ g (t2 _ _ (t3 _ _ (t4 _ _ (t5 _ _ (t6 _ _ (t7 _ _ (t8 _ _ (t9 _ _ (t10 _ _ (g')))))))))), fun b o g g' => p2 _ _ g (t3 _ _ (t4 _ _ (s5 _ _ (g')))), fun b o g g' => p2 _ _ g (t3 _ _ (t4 _ _ (t5 _ _ (s6 _ _ (g'))))), fun b o g g' => p2 _ _ g (t3 _ _ (t4 _ _ (t5 _ _ (t6 _ _ (s7 _ _ (g')))))), fun b o g g' => p2 _ _ g (t3 _ _ (t4 _ _ (t5 _ _ (t6 _ _ (t7 _ _ (s8 _ _ (g'))))))), fun b o g g' => p2 _ _ g (t3 _ _ (t4 _ _ (t5 _ _ (t6 _ _ (t7 _ _ (t8 _ _ (s9 _ _ (g')))))))), fun b o g g' => p2 _ _ g (t3 _ _ (t4 _ _ (t5 _ _ (t6 _ _ (t7 _ _ (t8 _ _ (t9 _ _ (s10 _ _ (g'))))))))), fun b o g g' => p2 _ _ g (t3 _ _ (t4 _ _ (t5 _ _ (t6 _ _ (t7 _ _ (t8 _ _ (t9 _ _ (t10 _ _ (g'))))))))), fun b o g g' => p5 _ _ g (s6 _ _ (g')), fun b o g g' => p5 _ _ g (t6 _ _ (s7 _ _ (g'))), fun b o g g' => p5 _ _ g (t6 _ _ (t7 _ _ (s8 _ _ (g')))), fun b o g g' => p5 _ _ g (t6 _ _ (t7 _ _ (t8 _ _ (s9 _ _ (g'))))), fun b o g g' => p5 _ _ g (t6 _ _ (t7 _ _ (t8 _ _ (t9 _ _ (s10 _ _ (g')))))), fun b o g g' => p5 _ _ g (t6 _ _ (t7 _ _ (t8 _ _ (t9 _ _ (t10 _ _ (g')))))), fun b o g g' => p6 _ _ g (s7 _ _ (g')), fun b o g g' => p6 _ _ g (t7 _ _ (s8 _ _ (g'))), fun b o g g' => p6 _ _ g (t7 _ _ (t8 _ _ (s9 _ _ (g')))), fun b o g g' => p6 _ _ g (t7 _ _ (t8 _ _ (t9 _ _ (s10 _ _ (g'))))), fun b o g g' => p6 _ _ g (t7 _ _ (t8 _ _ (t9 _ _ (t10 _ _ (g'))))), fun b o g g' => p7 _ _ g (s8 _ _ (g')), fun b o g g' => p7 _ _ g (t8 _ _ (s9 _ _ (g'))), fun b o g g' => p7 _ _ g (t8 _ _ (t9 _ _ (s10 _ _ (g')))), fun b o g g' => p7 _ _ g (t8 _ _ (t9 _ _ (t10 _ _ (g')))), fun b o g g' => p8 _ _ g (s9 _ _ (g')), fun b o g g' => p8 _ _ g (t9 _ _ (s10 _ _ (g'))), fun b o g g' => p8 _ _ g (t9 _ _ (t10 _ _ (g'))), fun b o g g' => p9 _ _ g (s10 _ _ (g')), fun b o g g' => p9 _ _ g (t10 _ _ (g')), fun b o g g' => p10 _ _ g (g')⟩
  · rintro ⟨a0, n0, c0, a1, n1, c1, a2, n2, c2, a3, n3, c3, a4, n4, c4, a5, n5, c5, a6, n6, c6, a7, n7, c7, a8, n8, c8, G0, G1, G2, G3, G4, G5, G6, G7, G8, rfl, ⟨x0, y0, l0⟩, ⟨x1, y1, l1⟩, ⟨x2, y2, l2⟩, ⟨x3, y3, l3⟩, ⟨x4, y4, l4⟩, ⟨x5, y5, l5⟩, ⟨x6, y6, l6⟩, ⟨x7, y7, l7⟩, ⟨x8, y8, l8⟩, h0, h1, h2, h3, h4, h5, h6, h7, h8, ap0_1, ap0_2, ap0_3, ap0_4, ap0_5, ap0_6, ap0_7, ap0_8, ap1_2, ap1_3, ap1_4, ap1_5, ap1_6, ap1_7, ap1_8, ap2_3, ap2_4, ap2_5, ap2_6, ap2_7, ap2_8, ap3_4, ap3_5, ap3_6, ap3_7, ap3_8, ap4_5, ap4_6, ap4_7, ap4_8, ap5_6, ap5_7, ap5_8, ap6_7, ap6_8, ap7_8⟩
    exact ⟨_, _, (fun _ _ => False), (fun b o => G0 b o ∨ G1 b o ∨ G2 b o ∨ G3 b o ∨ G4 b o ∨ G5 b o ∨ G6 b o ∨ G7 b o ∨ G8 b o), rfl, rfl, ⟨_, _, G0, (fun b o => G1 b o ∨ G2 b o ∨ G3 b o ∨ G4 b o ∨ G5 b o ∨ G6 b o ∨ G7 b o ∨ G8 b o), rfl, ⟨a0, n0, c0, rfl, x0, y0, l0⟩, ⟨_, _, G1, (fun b o => G2 b o ∨ G3 b o ∨ G4 b o ∨ G5 b o ∨ G6 b o ∨ G7 b o ∨ G8 b o), rfl, ⟨a1, n1, c1, rfl, x1, y1, l1⟩, ⟨_, _, (fun _ _ => False), (fun b o => G2 b o ∨ G3 b o ∨ G4 b o ∨ G5 b o ∨ G6 b o ∨ G7 b o ∨ G8 b o), rfl, rfl, ⟨_, _, (fun _ _ => False), (fun b o => G2 b o ∨ G3 b o ∨ G4 b o ∨ G5 b o ∨ G6 b o ∨ G7 b o ∨ G8 b o), rfl, rfl, ⟨_, _, G2, (fun b o => G3 b o ∨ G4 b o ∨ G5 b o ∨ G6 b o ∨ G7 b o ∨ G8 b o), rfl, ⟨a2, n2, c2, rfl, x2, y2, l2⟩, ⟨_, _, G3, (fun b o => G4 b o ∨ G5 b o ∨ G6 b o ∨ G7 b o ∨ G8 b o), rfl, ⟨a3, n3, c3, rfl, x3, y3, l3⟩, ⟨_, _, G4, (fun b o => G5 b o ∨ G6 b o ∨ G7 b o ∨ G8 b o), rfl, ⟨a4, n4, c4, rfl, x4, y4, l4⟩, ⟨_, _, G5, (fun b o => G6 b o ∨ G7 b o ∨ G8 b o), rfl, ⟨a5, n5, c5, rfl, x5, y5, l5⟩, ⟨_, _, G6, (fun b o => G7 b o ∨ G8 b o), rfl, ⟨a6, n6, c6, rfl, x6, y6, l6⟩, ⟨_, _, G7, G8, rfl, ⟨a7, n7, c7, rfl, x7, y7, l7⟩, ownGrads_owns.2 ⟨a8, n8, c8, rfl, x8, y8, l8⟩, fun b o g => Or.inl g, fun b o g => Or.inr (g), ap7_8⟩, fun b o g => Or.inl g, fun b o g => by rcases g with g | g <;> simp [g], fun b o g g' => by rcases g' with g' | g' <;> first | exact ap6_7 b o g g' | exact ap6_8 b o g g'⟩, fun b o g => Or.inl g, fun b o g => by rcases g with g | g | g <;> simp [g], fun b o g g' => by rcases g' with g' | g' | g' <;> first | exact ap5_6 b o g g' | exact ap5_7 b o g g' | exact ap5_8 b o g g'⟩, fun b o g => Or.inl g, fun b o g => by rcases g with g | g | g | g <;> simp [g], fun b o g g' => by rcases g' with g' | g' | g' | g' <;> first | exact ap4_5 b o g g' | exact ap4_6 b o g g' | exact ap4_7 b o g g' | exact ap4_8 b o g g'⟩, fun b o g => Or.inl g, fun b o g => by rcases g with g | g | g | g | g <;> simp [g], fun b o g g' => by rcases g' with g' | g' | g' | g' | g' <;> first | exact ap3_4 b o g g' | exact ap3_5 b o g g' | exact ap3_6 b o g g' | exact ap3_7 b o g g' | exact ap3_8 b o g g'⟩, fun b o g => Or.inl g, fun b o g => by rcases g with g | g | g | g | g | g <;> simp [g], fun b o g g' => by rcases g' with g' | g' | g' | g' | g' | g' <;> first | exact ap2_3 b o g g' | exact ap2_4 b o g g' | exact ap2_5 b o g g' | exact ap2_6 b o g g' | exact ap2_7 b o g g' | exact ap2_8 b o g g'⟩, fun _ _ g => g.elim, fun _ _ g => g, fun _ _ g => g.elim⟩, fun _ _ g => g.elim, fun _ _ g => g, fun _ _ g => g.elim⟩, fun b o g => Or.inl g, fun b o g => by rcases g with g | g | g | g | g | g | g <;> simp [g], fun b o g g' => by rcases g' with g' | g' | g' | g' | g' | g' | g' <;> first | exact ap1_2 b o g g' | exact ap1_3 b o g g' | exact ap1_4 b o g g' | exact ap1_5 b o g g' | exact ap1_6 b o g g' | exact ap1_7 b o g g' | exact ap1_8 b o g g'⟩, fun b o g => Or.inl g, fun b o g => by rcases g with g | g | g | g | g | g | g | g <;> simp [g], fun b o g g' => by rcases g' with g' | g' | g' | g' | g' | g' | g' | g' <;> first | exact ap0_1 b o g g' | exact ap0_2 b o g g' | exact ap0_3 b o g g' | exact ap0_4 b o g g' | exact ap0_5 b o g g' | exact ap0_6 b o g g' | exact ap0_7 b o g g' | exact ap0_8 b o g g'⟩, fun _ _ g => g.elim, fun b o g => by rcases g with g | g | g | g | g | g | g | g | g <;> first | exact h0 b o g | exact h1 b o g | exact h2 b o g | exact h3 b o g | exact h4 b o g | exact h5 b o g | exact h6 b o g | exact h7 b o g | exact h8 b o g, fun _ _ g => g.elim⟩
set_option maxRecDepth 100000 in
set_option maxHeartbeats 800000 in
theorem toStage_o (w : World) (B : Nat) (es : List Value) (x : dStage) (h : shStage.reads (Under B) w es x) (hB : B ≤ w.heap.size) (hb : shStage.bulk x ≤ 1048576) :
    Calls Try.prog 22 #[.agg es.toArray] w fun e w' => ∃ es', e = .returned (.agg es'.toArray) ∧ ownStage.owns (FromB w.heap.size w'.heap.size) w' es' x ∧ Below w.heap.size w w' := by
  obtain ⟨a0, n0, c0, a1, n1, c1, a2, n2, c2, a3, n3, c3, a4, n4, c4, a5, n5, c5, a6, n6, c6, a7, n7, c7, a8, n8, c8, rfl, ⟨p0, r0, l0⟩, ⟨p1, r1, l1⟩, ⟨p2, r2, l2⟩, ⟨p3, r3, l3⟩, ⟨p4, r4, l4⟩, ⟨p5, r5, l5⟩, ⟨p6, r6, l6⟩, ⟨p7, r7, l7⟩, ⟨p8, r8, l8⟩⟩ := shStage_reads.1 h
  rw [shStage_bulk] at hb
  have m0 : n0 ≤ 1048576 := by have := bulk_list shIns l0; omega
  have H0 := Lib.hid fun (w1 : World) (hbw : Below w.heap.size w w1) => toInsS_o w1 B a0 n0 c0 _ (l0.below hbw hB) (Nat.le_trans hB hbw.size) (by omega)
  have m1 : n1 ≤ 1048576 := by have := bulk_list shOp l1; omega
  have H1 := Lib.hid fun (w1 : World) (hbw : Below w.heap.size w w1) => toOpS_o w1 B a1 n1 c1 _ (l1.below hbw hB) (Nat.le_trans hB hbw.size) (by omega)
  have m2 : n2 ≤ 1048576 := by have := bulk_list shSaved l2; omega
  have H2 := Lib.hid fun (w1 : World) (hbw : Below w.heap.size w w1) => toSavedS_o w1 B a2 n2 c2 _ (l2.below hbw hB) (Nat.le_trans hB hbw.size) (by omega)
  have m3 : n3 ≤ 1048576 := by have := bulk_list shRow l3; omega
  have H3 := Lib.hid fun (w1 : World) (hbw : Below w.heap.size w w1) => toRowS_o w1 B a3 n3 c3 _ (l3.below hbw hB) (Nat.le_trans hB hbw.size) (by omega)
  have m4 : n4 ≤ 1048576 := by have := bulk_list Shape.int l4; omega
  have H4 := Lib.hid fun (w1 : World) (hbw : Below w.heap.size w w1) => toIntS_o w1 B a4 n4 c4 _ (l4.below hbw hB) (Nat.le_trans hB hbw.size) (by omega)
  have m5 : n5 ≤ 1048576 := by have := bulk_list Shape.int l5; omega
  have H5 := Lib.hid fun (w1 : World) (hbw : Below w.heap.size w w1) => toIntS_o w1 B a5 n5 c5 _ (l5.below hbw hB) (Nat.le_trans hB hbw.size) (by omega)
  have m6 : n6 ≤ 1048576 := by have := bulk_list Shape.int l6; omega
  have H6 := Lib.hid fun (w1 : World) (hbw : Below w.heap.size w w1) => toIntS_o w1 B a6 n6 c6 _ (l6.below hbw hB) (Nat.le_trans hB hbw.size) (by omega)
  have m7 : n7 ≤ 1048576 := by have := bulk_list Shape.int l7; omega
  have H7 := Lib.hid fun (w1 : World) (hbw : Below w.heap.size w w1) => toIntS_o w1 B a7 n7 c7 _ (l7.below hbw hB) (Nat.le_trans hB hbw.size) (by omega)
  have m8 : n8 ≤ 1048576 := by have := bulk_list shRow l8; omega
  have H8 := Lib.hid fun (w1 : World) (hbw : Below w.heap.size w w1) => toGrads_o w1 B [.slice a8 n8 c8, .int .i64 x.2.2.2.2.2.2.2.2.2.2.2.2.1, .bool x.2.2.2.2.2.2.2.2.2.2.2.2.2] x.2.2.2.2.2.2.2.2.2.2.2 (shGrads_reads.2 ⟨_, _, _, rfl, p8, r8, l8.below hbw hB⟩) (Nat.le_trans hB hbw.size) (by rw [shGrads_bulk]; omega)
  have hbx := Boxes.start w #[.int .i64 x.1, .slice a0 n0 c0, .slice a1 n1 c1, .bool x.2.2.2.1, .bool x.2.2.2.2.1, .slice a2 n2 c2, .slice a3 n3 c3, .slice a4 n4 c4, .slice a5 n5 c5, .slice a6 n6 c6, .slice a7 n7 c7, .slice a8 n8 c8, .int .i64 x.2.2.2.2.2.2.2.2.2.2.2.2.1, .bool x.2.2.2.2.2.2.2.2.2.2.2.2.2] #[.int .i64 0, .slice none 0 0, .slice none 0 0, .bool false, .bool false, .slice none 0 0, .slice none 0 0, .slice none 0 0, .slice none 0 0, .slice none 0 0, .slice none 0 0, .slice none 0 0, .int .i64 0, .bool false] #[.int .i64 x.1, .slice none 0 0, .slice none 0 0, .bool false, .bool false, .slice none 0 0, .slice none 0 0, .slice none 0 0, .slice none 0 0, .slice none 0 0, .slice none 0 0, .slice none 0 0, .int .i64 0, .bool false] 50 34
  clear h hb l0 r0 p0 l1 r1 p1 l2 r2 p2 l3 r3 p3 l4 r4 p4 l5 r5 p5 l6 r6 p6 l7 r7 p7 l8 r8 p8
  go_enter Try.func22, Try.ntmps22
  go_wp2_with fail
  generalize ((w.alloc (.cells #[.int .i64 x.1, .slice a0 n0 c0, .slice a1 n1 c1, .bool x.2.2.2.1, .bool x.2.2.2.2.1, .slice a2 n2 c2, .slice a3 n3 c3, .slice a4 n4 c4, .slice a5 n5 c5, .slice a6 n6 c6, .slice a7 n7 c7, .slice a8 n8 c8, .int .i64 x.2.2.2.2.2.2.2.2.2.2.2.2.1, .bool x.2.2.2.2.2.2.2.2.2.2.2.2.2] 50 (0, 0))).alloc (.cells #[.int .i64 0, .slice none 0 0, .slice none 0 0, .bool false, .bool false, .slice none 0 0, .slice none 0 0, .slice none 0 0, .slice none 0 0, .slice none 0 0, .slice none 0 0, .slice none 0 0, .int .i64 0, .bool false] 34 (0, 0))).alloc (.cells #[.int .i64 x.1, .slice none 0 0, .slice none 0 0, .bool false, .bool false, .slice none 0 0, .slice none 0 0, .slice none 0 0, .slice none 0 0, .slice none 0 0, .slice none 0 0, .slice none 0 0, .int .i64 0, .bool false] 34 (0, 0)) = v0 at hbx ⊢
  have BX0 := Lib.hid hbx
  clear hbx
  refine (H0.out v0 BX0.out.below).mono ?_
  rintro e w1 ⟨rfl, hr0, hb0⟩
  have hbx := BX0.out.call hb0
  have sb0 := hb0.size
  have hlt0 := BX0.out.size
  have za0_2 : w1.cell? ⟨w.heap.size, 2, none⟩ = _ := cell_of_row _ _ _ _ _ _ hbx.a
  have zo0_1 : w1.cell? ⟨w.heap.size + 1 + 1, 1, none⟩ = _ := cell_of_row _ _ _ _ _ _ hbx.o
  have fo0_1 : w1.frozen? ⟨w.heap.size + 1 + 1, 1, none⟩ = false := frozen_of_row _ _ _ _ _ hbx.o
  simp only [List.setIfInBounds_toArray, List.set_cons_zero, List.set_cons_succ, List.getElem?_toArray, List.getElem?_cons_zero, List.getElem?_cons_succ] at za0_2 zo0_1
  have N0_0 := hr0
  have hby := (hbx.store 1 (.slice (some ⟨v0.heap.size, 0, none⟩) n0 n0))
  have O0_0 := (N0_0.stored (w.heap.size + 1 + 1) 1 (.slice (some ⟨v0.heap.size, 0, none⟩) n0 n0) (by omega))
  replace hb0 := Lib.hid hb0
  replace hby := Lib.hid hby
  replace O0_0 := Lib.hid O0_0
  clear N0_0
  clear hr0 hbx
  go_wp2_with fail
  clear za0_2 zo0_1 fo0_1
  have hv1 : w1.heap.size ≤ (w1.setCell ⟨w.heap.size + 1 + 1, 1, none⟩ (.slice (some ⟨v0.heap.size, 0, none⟩) n0 n0)).heap.size := by simp
  generalize (w1.setCell ⟨w.heap.size + 1 + 1, 1, none⟩ (.slice (some ⟨v0.heap.size, 0, none⟩) n0 n0)) = v1 at hby hv1 O0_0 ⊢
  have BX1 := hby
  have M0_0 := O0_0
  clear O0_0 hby
  refine (H1.out v1 BX1.out.below).mono ?_
  rintro e w2 ⟨rfl, hr1, hb1⟩
  have hbx := BX1.out.call hb1
  have sb1 := hb1.size
  have hlt1 := BX1.out.size
  have za1_3 : w2.cell? ⟨w.heap.size, 3, none⟩ = _ := cell_of_row _ _ _ _ _ _ hbx.a
  have za1_4 : w2.cell? ⟨w.heap.size, 4, none⟩ = _ := cell_of_row _ _ _ _ _ _ hbx.a
  have za1_5 : w2.cell? ⟨w.heap.size, 5, none⟩ = _ := cell_of_row _ _ _ _ _ _ hbx.a
  have zo1_2 : w2.cell? ⟨w.heap.size + 1 + 1, 2, none⟩ = _ := cell_of_row _ _ _ _ _ _ hbx.o
  have zo1_3 : w2.cell? ⟨w.heap.size + 1 + 1, 3, none⟩ = _ := cell_of_row _ _ _ _ _ _ hbx.o
  have zo1_4 : w2.cell? ⟨w.heap.size + 1 + 1, 4, none⟩ = _ := cell_of_row _ _ _ _ _ _ hbx.o
  have fo1_2 : w2.frozen? ⟨w.heap.size + 1 + 1, 2, none⟩ = false := frozen_of_row _ _ _ _ _ hbx.o
  have fo1_3 : w2.frozen? ⟨w.heap.size + 1 + 1, 3, none⟩ = false := frozen_of_row _ _ _ _ _ hbx.o
  have fo1_4 : w2.frozen? ⟨w.heap.size + 1 + 1, 4, none⟩ = false := frozen_of_row _ _ _ _ _ hbx.o
  simp only [List.setIfInBounds_toArray, List.set_cons_zero, List.set_cons_succ, List.getElem?_toArray, List.getElem?_cons_zero, List.getElem?_cons_succ] at za1_3 za1_4 za1_5 zo1_2 zo1_3 zo1_4
  have N0_1 := M0_0.out.called hb1 (by omega)
  have N1_1 := hr1
  have hby := (((hbx.store 2 (.slice (some ⟨v1.heap.size, 0, none⟩) n1 n1)).store 3 (.bool x.2.2.2.1)).store 4 (.bool x.2.2.2.2.1))
  have O0_1 := (((N0_1.stored (w.heap.size + 1 + 1) 2 (.slice (some ⟨v1.heap.size, 0, none⟩) n1 n1) (by omega)).stored (w.heap.size + 1 + 1) 3 (.bool x.2.2.2.1) (by omega)).stored (w.heap.size + 1 + 1) 4 (.bool x.2.2.2.2.1) (by omega))
  have O1_1 := (((N1_1.stored (w.heap.size + 1 + 1) 2 (.slice (some ⟨v1.heap.size, 0, none⟩) n1 n1) (by omega)).stored (w.heap.size + 1 + 1) 3 (.bool x.2.2.2.1) (by omega)).stored (w.heap.size + 1 + 1) 4 (.bool x.2.2.2.2.1) (by omega))
  replace hb1 := Lib.hid hb1
  replace hby := Lib.hid hby
  replace O0_1 := Lib.hid O0_1
  clear N0_1
  replace O1_1 := Lib.hid O1_1
  clear N1_1
  clear hr1 hbx
  go_wp2_with fail
  clear za1_3 za1_4 za1_5 zo1_2 fo1_2 zo1_3 fo1_3 zo1_4 fo1_4
  have hv2 : w2.heap.size ≤ (((w2.setCell ⟨w.heap.size + 1 + 1, 2, none⟩ (.slice (some ⟨v1.heap.size, 0, none⟩) n1 n1)).setCell ⟨w.heap.size + 1 + 1, 3, none⟩ (.bool x.2.2.2.1)).setCell ⟨w.heap.size + 1 + 1, 4, none⟩ (.bool x.2.2.2.2.1)).heap.size := by simp
  generalize (((w2.setCell ⟨w.heap.size + 1 + 1, 2, none⟩ (.slice (some ⟨v1.heap.size, 0, none⟩) n1 n1)).setCell ⟨w.heap.size + 1 + 1, 3, none⟩ (.bool x.2.2.2.1)).setCell ⟨w.heap.size + 1 + 1, 4, none⟩ (.bool x.2.2.2.2.1)) = v2 at hby hv2 O0_1 O1_1 ⊢
  have BX2 := hby
  have M0_1 := O0_1
  have M1_1 := O1_1
  clear O0_1 O1_1 hby
  refine (H2.out v2 BX2.out.below).mono ?_
  rintro e w3 ⟨rfl, hr2, hb2⟩
  have hbx := BX2.out.call hb2
  have sb2 := hb2.size
  have hlt2 := BX2.out.size
  have za2_6 : w3.cell? ⟨w.heap.size, 6, none⟩ = _ := cell_of_row _ _ _ _ _ _ hbx.a
  have zo2_5 : w3.cell? ⟨w.heap.size + 1 + 1, 5, none⟩ = _ := cell_of_row _ _ _ _ _ _ hbx.o
  have fo2_5 : w3.frozen? ⟨w.heap.size + 1 + 1, 5, none⟩ = false := frozen_of_row _ _ _ _ _ hbx.o
  simp only [List.setIfInBounds_toArray, List.set_cons_zero, List.set_cons_succ, List.getElem?_toArray, List.getElem?_cons_zero, List.getElem?_cons_succ] at za2_6 zo2_5
  have N0_2 := M0_1.out.called hb2 (by omega)
  have N1_2 := M1_1.out.called hb2 (by omega)
  have N2_2 := hr2
  have hby := (hbx.store 5 (.slice (some ⟨v2.heap.size, 0, none⟩) n2 n2))
  have O0_2 := (N0_2.stored (w.heap.size + 1 + 1) 5 (.slice (some ⟨v2.heap.size, 0, none⟩) n2 n2) (by omega))
  have O1_2 := (N1_2.stored (w.heap.size + 1 + 1) 5 (.slice (some ⟨v2.heap.size, 0, none⟩) n2 n2) (by omega))
  have O2_2 := (N2_2.stored (w.heap.size + 1 + 1) 5 (.slice (some ⟨v2.heap.size, 0, none⟩) n2 n2) (by omega))
  replace hb2 := Lib.hid hb2
  replace hby := Lib.hid hby
  replace O0_2 := Lib.hid O0_2
  clear N0_2
  replace O1_2 := Lib.hid O1_2
  clear N1_2
  replace O2_2 := Lib.hid O2_2
  clear N2_2
  clear hr2 hbx
  go_wp2_with fail
  clear za2_6 zo2_5 fo2_5
  have hv3 : w3.heap.size ≤ (w3.setCell ⟨w.heap.size + 1 + 1, 5, none⟩ (.slice (some ⟨v2.heap.size, 0, none⟩) n2 n2)).heap.size := by simp
  generalize (w3.setCell ⟨w.heap.size + 1 + 1, 5, none⟩ (.slice (some ⟨v2.heap.size, 0, none⟩) n2 n2)) = v3 at hby hv3 O0_2 O1_2 O2_2 ⊢
  have BX3 := hby
  have M0_2 := O0_2
  have M1_2 := O1_2
  have M2_2 := O2_2
  clear O0_2 O1_2 O2_2 hby
  refine (H3.out v3 BX3.out.below).mono ?_
  rintro e w4 ⟨rfl, hr3, hb3⟩
  have hbx := BX3.out.call hb3
  have sb3 := hb3.size
  have hlt3 := BX3.out.size
  have za3_7 : w4.cell? ⟨w.heap.size, 7, none⟩ = _ := cell_of_row _ _ _ _ _ _ hbx.a
  have zo3_6 : w4.cell? ⟨w.heap.size + 1 + 1, 6, none⟩ = _ := cell_of_row _ _ _ _ _ _ hbx.o
  have fo3_6 : w4.frozen? ⟨w.heap.size + 1 + 1, 6, none⟩ = false := frozen_of_row _ _ _ _ _ hbx.o
  simp only [List.setIfInBounds_toArray, List.set_cons_zero, List.set_cons_succ, List.getElem?_toArray, List.getElem?_cons_zero, List.getElem?_cons_succ] at za3_7 zo3_6
  have N0_3 := M0_2.out.called hb3 (by omega)
  have N1_3 := M1_2.out.called hb3 (by omega)
  have N2_3 := M2_2.out.called hb3 (by omega)
  have N3_3 := hr3
  have hby := (hbx.store 6 (.slice (some ⟨v3.heap.size, 0, none⟩) n3 n3))
  have O0_3 := (N0_3.stored (w.heap.size + 1 + 1) 6 (.slice (some ⟨v3.heap.size, 0, none⟩) n3 n3) (by omega))
  have O1_3 := (N1_3.stored (w.heap.size + 1 + 1) 6 (.slice (some ⟨v3.heap.size, 0, none⟩) n3 n3) (by omega))
  have O2_3 := (N2_3.stored (w.heap.size + 1 + 1) 6 (.slice (some ⟨v3.heap.size, 0, none⟩) n3 n3) (by omega))
  have O3_3 := (N3_3.stored (w.heap.size + 1 + 1) 6 (.slice (some ⟨v3.heap.size, 0, none⟩) n3 n3) (by omega))
  replace hb3 := Lib.hid hb3
  replace hby := Lib.hid hby
  replace O0_3 := Lib.hid O0_3
  clear N0_3
  replace O1_3 := Lib.hid O1_3
  clear N1_3
  replace O2_3 := Lib.hid O2_3
  clear N2_3
  replace O3_3 := Lib.hid O3_3
  clear N3_3
  clear hr3 hbx
  go_wp2_with fail
  clear za3_7 zo3_6 fo3_6
  have hv4 : w4.heap.size ≤ (w4.setCell ⟨w.heap.size + 1 + 1, 6, none⟩ (.slice (some ⟨v3.heap.size, 0, none⟩) n3 n3)).heap.size := by simp
  generalize (w4.setCell ⟨w.heap.size + 1 + 1, 6, none⟩ (.slice (some ⟨v3.heap.size, 0, none⟩) n3 n3)) = v4 at hby hv4 O0_3 O1_3 O2_3 O3_3 ⊢
  have BX4 := hby
  have M0_3 := O0_3
  have M1_3 := O1_3
  have M2_3 := O2_3
  have M3_3 := O3_3
  clear O0_3 O1_3 O2_3 O3_3 hby
  refine (H4.out v4 BX4.out.below).mono ?_
  rintro e w5 ⟨rfl, hr4, hb4⟩
  have hbx := BX4.out.call hb4
  have sb4 := hb4.size
  have hlt4 := BX4.out.size
  have za4_8 : w5.cell? ⟨w.heap.size, 8, none⟩ = _ := cell_of_row _ _ _ _ _ _ hbx.a
  have zo4_7 : w5.cell? ⟨w.heap.size + 1 + 1, 7, none⟩ = _ := cell_of_row _ _ _ _ _ _ hbx.o
  have fo4_7 : w5.frozen? ⟨w.heap.size + 1 + 1, 7, none⟩ = false := frozen_of_row _ _ _ _ _ hbx.o
  simp only [List.setIfInBounds_toArray, List.set_cons_zero, List.set_cons_succ, List.getElem?_toArray, List.getElem?_cons_zero, List.getElem?_cons_succ] at za4_8 zo4_7
  have N0_4 := M0_3.out.called hb4 (by omega)
  have N1_4 := M1_3.out.called hb4 (by omega)
  have N2_4 := M2_3.out.called hb4 (by omega)
  have N3_4 := M3_3.out.called hb4 (by omega)
  have N4_4 := hr4
  have hby := (hbx.store 7 (.slice (some ⟨v4.heap.size, 0, none⟩) n4 n4))
  have O0_4 := (N0_4.stored (w.heap.size + 1 + 1) 7 (.slice (some ⟨v4.heap.size, 0, none⟩) n4 n4) (by omega))
  have O1_4 := (N1_4.stored (w.heap.size + 1 + 1) 7 (.slice (some ⟨v4.heap.size, 0, none⟩) n4 n4) (by omega))
  have O2_4 := (N2_4.stored (w.heap.size + 1 + 1) 7 (.slice (some ⟨v4.heap.size, 0, none⟩) n4 n4) (by omega))
  have O3_4 := (N3_4.stored (w.heap.size + 1 + 1) 7 (.slice (some ⟨v4.heap.size, 0, none⟩) n4 n4) (by omega))
  have O4_4 := (N4_4.stored (w.heap.size + 1 + 1) 7 (.slice (some ⟨v4.heap.size, 0, none⟩) n4 n4) (by omega))
  replace hb4 := Lib.hid hb4
  replace hby := Lib.hid hby
  replace O0_4 := Lib.hid O0_4
  clear N0_4
  replace O1_4 := Lib.hid O1_4
  clear N1_4
  replace O2_4 := Lib.hid O2_4
  clear N2_4
  replace O3_4 := Lib.hid O3_4
  clear N3_4
  replace O4_4 := Lib.hid O4_4
  clear N4_4
  clear hr4 hbx
  go_wp2_with fail
  clear za4_8 zo4_7 fo4_7
  have hv5 : w5.heap.size ≤ (w5.setCell ⟨w.heap.size + 1 + 1, 7, none⟩ (.slice (some ⟨v4.heap.size, 0, none⟩) n4 n4)).heap.size := by simp
  generalize (w5.setCell ⟨w.heap.size + 1 + 1, 7, none⟩ (.slice (some ⟨v4.heap.size, 0, none⟩) n4 n4)) = v5 at hby hv5 O0_4 O1_4 O2_4 O3_4 O4_4 ⊢
  have BX5 := hby
  have M0_4 := O0_4
  have M1_4 := O1_4
  have M2_4 := O2_4
  have M3_4 := O3_4
  have M4_4 := O4_4
  clear O0_4 O1_4 O2_4 O3_4 O4_4 hby
  refine (H5.out v5 BX5.out.below).mono ?_
  rintro e w6 ⟨rfl, hr5, hb5⟩
  have hbx := BX5.out.call hb5
  have sb5 := hb5.size
  have hlt5 := BX5.out.size
  have za5_9 : w6.cell? ⟨w.heap.size, 9, none⟩ = _ := cell_of_row _ _ _ _ _ _ hbx.a
  have zo5_8 : w6.cell? ⟨w.heap.size + 1 + 1, 8, none⟩ = _ := cell_of_row _ _ _ _ _ _ hbx.o
  have fo5_8 : w6.frozen? ⟨w.heap.size + 1 + 1, 8, none⟩ = false := frozen_of_row _ _ _ _ _ hbx.o
  simp only [List.setIfInBounds_toArray, List.set_cons_zero, List.set_cons_succ, List.getElem?_toArray, List.getElem?_cons_zero, List.getElem?_cons_succ] at za5_9 zo5_8
  have N0_5 := M0_4.out.called hb5 (by omega)
  have N1_5 := M1_4.out.called hb5 (by omega)
  have N2_5 := M2_4.out.called hb5 (by omega)
  have N3_5 := M3_4.out.called hb5 (by omega)
  have N4_5 := M4_4.out.called hb5 (by omega)
  have N5_5 := hr5
  have hby := (hbx.store 8 (.slice (some ⟨v5.heap.size, 0, none⟩) n5 n5))
  have O0_5 := (N0_5.stored (w.heap.size + 1 + 1) 8 (.slice (some ⟨v5.heap.size, 0, none⟩) n5 n5) (by omega))
  have O1_5 := (N1_5.stored (w.heap.size + 1 + 1) 8 (.slice (some ⟨v5.heap.size, 0, none⟩) n5 n5) (by omega))
  have O2_5 := (N2_5.stored (w.heap.size + 1 + 1) 8 (.slice (some ⟨v5.heap.size, 0, none⟩) n5 n5) (by omega))
  have O3_5 := (N3_5.stored (w.heap.size + 1 + 1) 8 (.slice (some ⟨v5.heap.size, 0, none⟩) n5 n5) (by omega))
  have O4_5 := (N4_5.stored (w.heap.size + 1 + 1) 8 (.slice (some ⟨v5.heap.size, 0, none⟩) n5 n5) (by omega))
  have O5_5 := (N5_5.stored (w.heap.size + 1 + 1) 8 (.slice (some ⟨v5.heap.size, 0, none⟩) n5 n5) (by omega))
  replace hb5 := Lib.hid hb5
  replace hby := Lib.hid hby
  replace O0_5 := Lib.hid O0_5
  clear N0_5
  replace O1_5 := Lib.hid O1_5
  clear N1_5
  replace O2_5 := Lib.hid O2_5
  clear N2_5
  replace O3_5 := Lib.hid O3_5
  clear N3_5
  replace O4_5 := Lib.hid O4_5
  clear N4_5
  replace O5_5 := Lib.hid O5_5
  clear N5_5
  clear hr5 hbx
  go_wp2_with fail
  clear za5_9 zo5_8 fo5_8
  have hv6 : w6.heap.size ≤ (w6.setCell ⟨w.heap.size + 1 + 1, 8, none⟩ (.slice (some ⟨v5.heap.size, 0, none⟩) n5 n5)).heap.size := by simp
  generalize (w6.setCell ⟨w.heap.size + 1 + 1, 8, none⟩ (.slice (some ⟨v5.heap.size, 0, none⟩) n5 n5)) = v6 at hby hv6 O0_5 O1_5 O2_5 O3_5 O4_5 O5_5 ⊢
  have BX6 := hby
  have M0_5 := O0_5
  have M1_5 := O1_5
  have M2_5 := O2_5
  have M3_5 := O3_5
  have M4_5 := O4_5
  have M5_5 := O5_5
  clear O0_5 O1_5 O2_5 O3_5 O4_5 O5_5 hby
  refine (H6.out v6 BX6.out.below).mono ?_
  rintro e w7 ⟨rfl, hr6, hb6⟩
  have hbx := BX6.out.call hb6
  have sb6 := hb6.size
  have hlt6 := BX6.out.size
  have za6_10 : w7.cell? ⟨w.heap.size, 10, none⟩ = _ := cell_of_row _ _ _ _ _ _ hbx.a
  have zo6_9 : w7.cell? ⟨w.heap.size + 1 + 1, 9, none⟩ = _ := cell_of_row _ _ _ _ _ _ hbx.o
  have fo6_9 : w7.frozen? ⟨w.heap.size + 1 + 1, 9, none⟩ = false := frozen_of_row _ _ _ _ _ hbx.o
  simp only [List.setIfInBounds_toArray, List.set_cons_zero, List.set_cons_succ, List.getElem?_toArray, List.getElem?_cons_zero, List.getElem?_cons_succ] at za6_10 zo6_9
  have N0_6 := M0_5.out.called hb6 (by omega)
  have N1_6 := M1_5.out.called hb6 (by omega)
  have N2_6 := M2_5.out.called hb6 (by omega)
  have N3_6 := M3_5.out.called hb6 (by omega)
  have N4_6 := M4_5.out.called hb6 (by omega)
  have N5_6 := M5_5.out.called hb6 (by omega)
  have N6_6 := hr6
  have hby := (hbx.store 9 (.slice (some ⟨v6.heap.size, 0, none⟩) n6 n6))
  have O0_6 := (N0_6.stored (w.heap.size + 1 + 1) 9 (.slice (some ⟨v6.heap.size, 0, none⟩) n6 n6) (by omega))
  have O1_6 := (N1_6.stored (w.heap.size + 1 + 1) 9 (.slice (some ⟨v6.heap.size, 0, none⟩) n6 n6) (by omega))
  have O2_6 := (N2_6.stored (w.heap.size + 1 + 1) 9 (.slice (some ⟨v6.heap.size, 0, none⟩) n6 n6) (by omega))
  have O3_6 := (N3_6.stored (w.heap.size + 1 + 1) 9 (.slice (some ⟨v6.heap.size, 0, none⟩) n6 n6) (by omega))
  have O4_6 := (N4_6.stored (w.heap.size + 1 + 1) 9 (.slice (some ⟨v6.heap.size, 0, none⟩) n6 n6) (by omega))
  have O5_6 := (N5_6.stored (w.heap.size + 1 + 1) 9 (.slice (some ⟨v6.heap.size, 0, none⟩) n6 n6) (by omega))
  have O6_6 := (N6_6.stored (w.heap.size + 1 + 1) 9 (.slice (some ⟨v6.heap.size, 0, none⟩) n6 n6) (by omega))
  replace hb6 := Lib.hid hb6
  replace hby := Lib.hid hby
  replace O0_6 := Lib.hid O0_6
  clear N0_6
  replace O1_6 := Lib.hid O1_6
  clear N1_6
  replace O2_6 := Lib.hid O2_6
  clear N2_6
  replace O3_6 := Lib.hid O3_6
  clear N3_6
  replace O4_6 := Lib.hid O4_6
  clear N4_6
  replace O5_6 := Lib.hid O5_6
  clear N5_6
  replace O6_6 := Lib.hid O6_6
  clear N6_6
  clear hr6 hbx
  go_wp2_with fail
  clear za6_10 zo6_9 fo6_9
  have hv7 : w7.heap.size ≤ (w7.setCell ⟨w.heap.size + 1 + 1, 9, none⟩ (.slice (some ⟨v6.heap.size, 0, none⟩) n6 n6)).heap.size := by simp
  generalize (w7.setCell ⟨w.heap.size + 1 + 1, 9, none⟩ (.slice (some ⟨v6.heap.size, 0, none⟩) n6 n6)) = v7 at hby hv7 O0_6 O1_6 O2_6 O3_6 O4_6 O5_6 O6_6 ⊢
  have BX7 := hby
  have M0_6 := O0_6
  have M1_6 := O1_6
  have M2_6 := O2_6
  have M3_6 := O3_6
  have M4_6 := O4_6
  have M5_6 := O5_6
  have M6_6 := O6_6
  clear O0_6 O1_6 O2_6 O3_6 O4_6 O5_6 O6_6 hby
  refine (H7.out v7 BX7.out.below).mono ?_
  rintro e w8 ⟨rfl, hr7, hb7⟩
  have hbx := BX7.out.call hb7
  have sb7 := hb7.size
  have hlt7 := BX7.out.size
  have za7_11 : w8.cell? ⟨w.heap.size, 11, none⟩ = _ := cell_of_row _ _ _ _ _ _ hbx.a
  have za7_12 : w8.cell? ⟨w.heap.size, 12, none⟩ = _ := cell_of_row _ _ _ _ _ _ hbx.a
  have za7_13 : w8.cell? ⟨w.heap.size, 13, none⟩ = _ := cell_of_row _ _ _ _ _ _ hbx.a
  have zo7_10 : w8.cell? ⟨w.heap.size + 1 + 1, 10, none⟩ = _ := cell_of_row _ _ _ _ _ _ hbx.o
  have fo7_10 : w8.frozen? ⟨w.heap.size + 1 + 1, 10, none⟩ = false := frozen_of_row _ _ _ _ _ hbx.o
  simp only [List.setIfInBounds_toArray, List.set_cons_zero, List.set_cons_succ, List.getElem?_toArray, List.getElem?_cons_zero, List.getElem?_cons_succ] at za7_11 za7_12 za7_13 zo7_10
  have N0_7 := M0_6.out.called hb7 (by omega)
  have N1_7 := M1_6.out.called hb7 (by omega)
  have N2_7 := M2_6.out.called hb7 (by omega)
  have N3_7 := M3_6.out.called hb7 (by omega)
  have N4_7 := M4_6.out.called hb7 (by omega)
  have N5_7 := M5_6.out.called hb7 (by omega)
  have N6_7 := M6_6.out.called hb7 (by omega)
  have N7_7 := hr7
  have hby := (hbx.store 10 (.slice (some ⟨v7.heap.size, 0, none⟩) n7 n7))
  have O0_7 := (N0_7.stored (w.heap.size + 1 + 1) 10 (.slice (some ⟨v7.heap.size, 0, none⟩) n7 n7) (by omega))
  have O1_7 := (N1_7.stored (w.heap.size + 1 + 1) 10 (.slice (some ⟨v7.heap.size, 0, none⟩) n7 n7) (by omega))
  have O2_7 := (N2_7.stored (w.heap.size + 1 + 1) 10 (.slice (some ⟨v7.heap.size, 0, none⟩) n7 n7) (by omega))
  have O3_7 := (N3_7.stored (w.heap.size + 1 + 1) 10 (.slice (some ⟨v7.heap.size, 0, none⟩) n7 n7) (by omega))
  have O4_7 := (N4_7.stored (w.heap.size + 1 + 1) 10 (.slice (some ⟨v7.heap.size, 0, none⟩) n7 n7) (by omega))
  have O5_7 := (N5_7.stored (w.heap.size + 1 + 1) 10 (.slice (some ⟨v7.heap.size, 0, none⟩) n7 n7) (by omega))
  have O6_7 := (N6_7.stored (w.heap.size + 1 + 1) 10 (.slice (some ⟨v7.heap.size, 0, none⟩) n7 n7) (by omega))
  have O7_7 := (N7_7.stored (w.heap.size + 1 + 1) 10 (.slice (some ⟨v7.heap.size, 0, none⟩) n7 n7) (by omega))
  replace hb7 := Lib.hid hb7
  replace hby := Lib.hid hby
  replace O0_7 := Lib.hid O0_7
  clear N0_7
  replace O1_7 := Lib.hid O1_7
  clear N1_7
  replace O2_7 := Lib.hid O2_7
  clear N2_7
  replace O3_7 := Lib.hid O3_7
  clear N3_7
  replace O4_7 := Lib.hid O4_7
  clear N4_7
  replace O5_7 := Lib.hid O5_7
  clear N5_7
  replace O6_7 := Lib.hid O6_7
  clear N6_7
  replace O7_7 := Lib.hid O7_7
  clear N7_7
  clear hr7 hbx
  go_wp2_with fail
  clear za7_11 za7_12 za7_13 zo7_10 fo7_10
  have hv8 : w8.heap.size ≤ (w8.setCell ⟨w.heap.size + 1 + 1, 10, none⟩ (.slice (some ⟨v7.heap.size, 0, none⟩) n7 n7)).heap.size := by simp
  generalize (w8.setCell ⟨w.heap.size + 1 + 1, 10, none⟩ (.slice (some ⟨v7.heap.size, 0, none⟩) n7 n7)) = v8 at hby hv8 O0_7 O1_7 O2_7 O3_7 O4_7 O5_7 O6_7 O7_7 ⊢
  have BX8 := hby
  have M0_7 := O0_7
  have M1_7 := O1_7
  have M2_7 := O2_7
  have M3_7 := O3_7
  have M4_7 := O4_7
  have M5_7 := O5_7
  have M6_7 := O6_7
  have M7_7 := O7_7
  clear O0_7 O1_7 O2_7 O3_7 O4_7 O5_7 O6_7 O7_7 hby
  refine (H8.out v8 BX8.out.below).mono ?_
  rintro e w9 ⟨es', rfl, hr', hb8⟩
  obtain ⟨a8', n8', c8', rfl, p8', r8', hr8⟩ := ownGrads_owns.1 hr'
  clear hr'
  have hbx := BX8.out.call hb8
  have sb8 := hb8.size
  have hlt8 := BX8.out.size
  have zo8_0 : w9.cell? ⟨w.heap.size + 1 + 1, 0, none⟩ = _ := cell_of_row _ _ _ _ _ _ hbx.o
  have zo8_1 : w9.cell? ⟨w.heap.size + 1 + 1, 1, none⟩ = _ := cell_of_row _ _ _ _ _ _ hbx.o
  have zo8_2 : w9.cell? ⟨w.heap.size + 1 + 1, 2, none⟩ = _ := cell_of_row _ _ _ _ _ _ hbx.o
  have zo8_3 : w9.cell? ⟨w.heap.size + 1 + 1, 3, none⟩ = _ := cell_of_row _ _ _ _ _ _ hbx.o
  have zo8_4 : w9.cell? ⟨w.heap.size + 1 + 1, 4, none⟩ = _ := cell_of_row _ _ _ _ _ _ hbx.o
  have zo8_5 : w9.cell? ⟨w.heap.size + 1 + 1, 5, none⟩ = _ := cell_of_row _ _ _ _ _ _ hbx.o
  have zo8_6 : w9.cell? ⟨w.heap.size + 1 + 1, 6, none⟩ = _ := cell_of_row _ _ _ _ _ _ hbx.o
  have zo8_7 : w9.cell? ⟨w.heap.size + 1 + 1, 7, none⟩ = _ := cell_of_row _ _ _ _ _ _ hbx.o
  have zo8_8 : w9.cell? ⟨w.heap.size + 1 + 1, 8, none⟩ = _ := cell_of_row _ _ _ _ _ _ hbx.o
  have zo8_9 : w9.cell? ⟨w.heap.size + 1 + 1, 9, none⟩ = _ := cell_of_row _ _ _ _ _ _ hbx.o
  have zo8_10 : w9.cell? ⟨w.heap.size + 1 + 1, 10, none⟩ = _ := cell_of_row _ _ _ _ _ _ hbx.o
  have zo8_11 : w9.cell? ⟨w.heap.size + 1 + 1, 11, none⟩ = _ := cell_of_row _ _ _ _ _ _ hbx.o
  have zo8_12 : w9.cell? ⟨w.heap.size + 1 + 1, 12, none⟩ = _ := cell_of_row _ _ _ _ _ _ hbx.o
  have zo8_13 : w9.cell? ⟨w.heap.size + 1 + 1, 13, none⟩ = _ := cell_of_row _ _ _ _ _ _ hbx.o
  have zr8_0 : w9.cell? ⟨w.heap.size + 1, 0, none⟩ = _ := cell_of_row _ _ _ _ _ _ hbx.z
  have zr8_1 : w9.cell? ⟨w.heap.size + 1, 1, none⟩ = _ := cell_of_row _ _ _ _ _ _ hbx.z
  have zr8_2 : w9.cell? ⟨w.heap.size + 1, 2, none⟩ = _ := cell_of_row _ _ _ _ _ _ hbx.z
  have zr8_3 : w9.cell? ⟨w.heap.size + 1, 3, none⟩ = _ := cell_of_row _ _ _ _ _ _ hbx.z
  have zr8_4 : w9.cell? ⟨w.heap.size + 1, 4, none⟩ = _ := cell_of_row _ _ _ _ _ _ hbx.z
  have zr8_5 : w9.cell? ⟨w.heap.size + 1, 5, none⟩ = _ := cell_of_row _ _ _ _ _ _ hbx.z
  have zr8_6 : w9.cell? ⟨w.heap.size + 1, 6, none⟩ = _ := cell_of_row _ _ _ _ _ _ hbx.z
  have zr8_7 : w9.cell? ⟨w.heap.size + 1, 7, none⟩ = _ := cell_of_row _ _ _ _ _ _ hbx.z
  have zr8_8 : w9.cell? ⟨w.heap.size + 1, 8, none⟩ = _ := cell_of_row _ _ _ _ _ _ hbx.z
  have zr8_9 : w9.cell? ⟨w.heap.size + 1, 9, none⟩ = _ := cell_of_row _ _ _ _ _ _ hbx.z
  have zr8_10 : w9.cell? ⟨w.heap.size + 1, 10, none⟩ = _ := cell_of_row _ _ _ _ _ _ hbx.z
  have zr8_11 : w9.cell? ⟨w.heap.size + 1, 11, none⟩ = _ := cell_of_row _ _ _ _ _ _ hbx.z
  have zr8_12 : w9.cell? ⟨w.heap.size + 1, 12, none⟩ = _ := cell_of_row _ _ _ _ _ _ hbx.z
  have zr8_13 : w9.cell? ⟨w.heap.size + 1, 13, none⟩ = _ := cell_of_row _ _ _ _ _ _ hbx.z
  have fo8_0 : w9.frozen? ⟨w.heap.size + 1 + 1, 0, none⟩ = false := frozen_of_row _ _ _ _ _ hbx.o
  have fo8_1 : w9.frozen? ⟨w.heap.size + 1 + 1, 1, none⟩ = false := frozen_of_row _ _ _ _ _ hbx.o
  have fo8_2 : w9.frozen? ⟨w.heap.size + 1 + 1, 2, none⟩ = false := frozen_of_row _ _ _ _ _ hbx.o
  have fo8_3 : w9.frozen? ⟨w.heap.size + 1 + 1, 3, none⟩ = false := frozen_of_row _ _ _ _ _ hbx.o
  have fo8_4 : w9.frozen? ⟨w.heap.size + 1 + 1, 4, none⟩ = false := frozen_of_row _ _ _ _ _ hbx.o
  have fo8_5 : w9.frozen? ⟨w.heap.size + 1 + 1, 5, none⟩ = false := frozen_of_row _ _ _ _ _ hbx.o
  have fo8_6 : w9.frozen? ⟨w.heap.size + 1 + 1, 6, none⟩ = false := frozen_of_row _ _ _ _ _ hbx.o
  have fo8_7 : w9.frozen? ⟨w.heap.size + 1 + 1, 7, none⟩ = false := frozen_of_row _ _ _ _ _ hbx.o
  have fo8_8 : w9.frozen? ⟨w.heap.size + 1 + 1, 8, none⟩ = false := frozen_of_row _ _ _ _ _ hbx.o
  have fo8_9 : w9.frozen? ⟨w.heap.size + 1 + 1, 9, none⟩ = false := frozen_of_row _ _ _ _ _ hbx.o
  have fo8_10 : w9.frozen? ⟨w.heap.size + 1 + 1, 10, none⟩ = false := frozen_of_row _ _ _ _ _ hbx.o
  have fo8_11 : w9.frozen? ⟨w.heap.size + 1 + 1, 11, none⟩ = false := frozen_of_row _ _ _ _ _ hbx.o
  have fo8_12 : w9.frozen? ⟨w.heap.size + 1 + 1, 12, none⟩ = false := frozen_of_row _ _ _ _ _ hbx.o
  have fo8_13 : w9.frozen? ⟨w.heap.size + 1 + 1, 13, none⟩ = false := frozen_of_row _ _ _ _ _ hbx.o
  have fr8_0 : w9.frozen? ⟨w.heap.size + 1, 0, none⟩ = false := frozen_of_row _ _ _ _ _ hbx.z
  have fr8_1 : w9.frozen? ⟨w.heap.size + 1, 1, none⟩ = false := frozen_of_row _ _ _ _ _ hbx.z
  have fr8_2 : w9.frozen? ⟨w.heap.size + 1, 2, none⟩ = false := frozen_of_row _ _ _ _ _ hbx.z
  have fr8_3 : w9.frozen? ⟨w.heap.size + 1, 3, none⟩ = false := frozen_of_row _ _ _ _ _ hbx.z
  have fr8_4 : w9.frozen? ⟨w.heap.size + 1, 4, none⟩ = false := frozen_of_row _ _ _ _ _ hbx.z
  have fr8_5 : w9.frozen? ⟨w.heap.size + 1, 5, none⟩ = false := frozen_of_row _ _ _ _ _ hbx.z
  have fr8_6 : w9.frozen? ⟨w.heap.size + 1, 6, none⟩ = false := frozen_of_row _ _ _ _ _ hbx.z
  have fr8_7 : w9.frozen? ⟨w.heap.size + 1, 7, none⟩ = false := frozen_of_row _ _ _ _ _ hbx.z
  have fr8_8 : w9.frozen? ⟨w.heap.size + 1, 8, none⟩ = false := frozen_of_row _ _ _ _ _ hbx.z
  have fr8_9 : w9.frozen? ⟨w.heap.size + 1, 9, none⟩ = false := frozen_of_row _ _ _ _ _ hbx.z
  have fr8_10 : w9.frozen? ⟨w.heap.size + 1, 10, none⟩ = false := frozen_of_row _ _ _ _ _ hbx.z
  have fr8_11 : w9.frozen? ⟨w.heap.size + 1, 11, none⟩ = false := frozen_of_row _ _ _ _ _ hbx.z
  have fr8_12 : w9.frozen? ⟨w.heap.size + 1, 12, none⟩ = false := frozen_of_row _ _ _ _ _ hbx.z
  have fr8_13 : w9.frozen? ⟨w.heap.size + 1, 13, none⟩ = false := frozen_of_row _ _ _ _ _ hbx.z
  simp only [List.setIfInBounds_toArray, List.set_cons_zero, List.set_cons_succ, List.getElem?_toArray, List.getElem?_cons_zero, List.getElem?_cons_succ] at zo8_0 zo8_1 zo8_2 zo8_3 zo8_4 zo8_5 zo8_6 zo8_7 zo8_8 zo8_9 zo8_10 zo8_11 zo8_12 zo8_13 zr8_0 zr8_1 zr8_2 zr8_3 zr8_4 zr8_5 zr8_6 zr8_7 zr8_8 zr8_9 zr8_10 zr8_11 zr8_12 zr8_13
  have N0_8 := M0_7.out.called hb8 (by omega)
  have N1_8 := M1_7.out.called hb8 (by omega)
  have N2_8 := M2_7.out.called hb8 (by omega)
  have N3_8 := M3_7.out.called hb8 (by omega)
  have N4_8 := M4_7.out.called hb8 (by omega)
  have N5_8 := M5_7.out.called hb8 (by omega)
  have N6_8 := M6_7.out.called hb8 (by omega)
  have N7_8 := M7_7.out.called hb8 (by omega)
  have N8_8 := hr8
  have hby := (((hbx.store 11 (.slice a8' n8' c8')).store 12 (.int .i64 x.2.2.2.2.2.2.2.2.2.2.2.2.1)).store 13 (.bool x.2.2.2.2.2.2.2.2.2.2.2.2.2))
  have O0_8 := (((N0_8.stored (w.heap.size + 1 + 1) 11 (.slice a8' n8' c8') (by omega)).stored (w.heap.size + 1 + 1) 12 (.int .i64 x.2.2.2.2.2.2.2.2.2.2.2.2.1) (by omega)).stored (w.heap.size + 1 + 1) 13 (.bool x.2.2.2.2.2.2.2.2.2.2.2.2.2) (by omega))
  have O1_8 := (((N1_8.stored (w.heap.size + 1 + 1) 11 (.slice a8' n8' c8') (by omega)).stored (w.heap.size + 1 + 1) 12 (.int .i64 x.2.2.2.2.2.2.2.2.2.2.2.2.1) (by omega)).stored (w.heap.size + 1 + 1) 13 (.bool x.2.2.2.2.2.2.2.2.2.2.2.2.2) (by omega))
  have O2_8 := (((N2_8.stored (w.heap.size + 1 + 1) 11 (.slice a8' n8' c8') (by omega)).stored (w.heap.size + 1 + 1) 12 (.int .i64 x.2.2.2.2.2.2.2.2.2.2.2.2.1) (by omega)).stored (w.heap.size + 1 + 1) 13 (.bool x.2.2.2.2.2.2.2.2.2.2.2.2.2) (by omega))
  have O3_8 := (((N3_8.stored (w.heap.size + 1 + 1) 11 (.slice a8' n8' c8') (by omega)).stored (w.heap.size + 1 + 1) 12 (.int .i64 x.2.2.2.2.2.2.2.2.2.2.2.2.1) (by omega)).stored (w.heap.size + 1 + 1) 13 (.bool x.2.2.2.2.2.2.2.2.2.2.2.2.2) (by omega))
  have O4_8 := (((N4_8.stored (w.heap.size + 1 + 1) 11 (.slice a8' n8' c8') (by omega)).stored (w.heap.size + 1 + 1) 12 (.int .i64 x.2.2.2.2.2.2.2.2.2.2.2.2.1) (by omega)).stored (w.heap.size + 1 + 1) 13 (.bool x.2.2.2.2.2.2.2.2.2.2.2.2.2) (by omega))
  have O5_8 := (((N5_8.stored (w.heap.size + 1 + 1) 11 (.slice a8' n8' c8') (by omega)).stored (w.heap.size + 1 + 1) 12 (.int .i64 x.2.2.2.2.2.2.2.2.2.2.2.2.1) (by omega)).stored (w.heap.size + 1 + 1) 13 (.bool x.2.2.2.2.2.2.2.2.2.2.2.2.2) (by omega))
  have O6_8 := (((N6_8.stored (w.heap.size + 1 + 1) 11 (.slice a8' n8' c8') (by omega)).stored (w.heap.size + 1 + 1) 12 (.int .i64 x.2.2.2.2.2.2.2.2.2.2.2.2.1) (by omega)).stored (w.heap.size + 1 + 1) 13 (.bool x.2.2.2.2.2.2.2.2.2.2.2.2.2) (by omega))
  have O7_8 := (((N7_8.stored (w.heap.size + 1 + 1) 11 (.slice a8' n8' c8') (by omega)).stored (w.heap.size + 1 + 1) 12 (.int .i64 x.2.2.2.2.2.2.2.2.2.2.2.2.1) (by omega)).stored (w.heap.size + 1 + 1) 13 (.bool x.2.2.2.2.2.2.2.2.2.2.2.2.2) (by omega))
  have O8_8 := (((N8_8.stored (w.heap.size + 1 + 1) 11 (.slice a8' n8' c8') (by omega)).stored (w.heap.size + 1 + 1) 12 (.int .i64 x.2.2.2.2.2.2.2.2.2.2.2.2.1) (by omega)).stored (w.heap.size + 1 + 1) 13 (.bool x.2.2.2.2.2.2.2.2.2.2.2.2.2) (by omega))
  replace hby := Lib.hid hby
  replace O0_8 := Lib.hid O0_8
  clear N0_8
  replace O1_8 := Lib.hid O1_8
  clear N1_8
  replace O2_8 := Lib.hid O2_8
  clear N2_8
  replace O3_8 := Lib.hid O3_8
  clear N3_8
  replace O4_8 := Lib.hid O4_8
  clear N4_8
  replace O5_8 := Lib.hid O5_8
  clear N5_8
  replace O6_8 := Lib.hid O6_8
  clear N6_8
  replace O7_8 := Lib.hid O7_8
  clear N7_8
  replace O8_8 := Lib.hid O8_8
  clear N8_8
  clear hr8 hbx hb8
  go_wp2_with fail
  refine bodyPost_ret (results_cell_row rfl _ _ (w.heap.size + 1) 34 #[.int .i64 x.1, .slice (some ⟨v0.heap.size, 0, none⟩) n0 n0, .slice (some ⟨v1.heap.size, 0, none⟩) n1 n1, .bool x.2.2.2.1, .bool x.2.2.2.2.1, .slice (some ⟨v2.heap.size, 0, none⟩) n2 n2, .slice (some ⟨v3.heap.size, 0, none⟩) n3 n3, .slice (some ⟨v4.heap.size, 0, none⟩) n4 n4, .slice (some ⟨v5.heap.size, 0, none⟩) n5 n5, .slice (some ⟨v6.heap.size, 0, none⟩) n6 n6, .slice (some ⟨v7.heap.size, 0, none⟩) n7 n7, .slice a8' n8' c8', .int .i64 x.2.2.2.2.2.2.2.2.2.2.2.2.1, .bool x.2.2.2.2.2.2.2.2.2.2.2.2.2] (0, 0) _ rfl ?_ Try.underlying34 rfl (by kernel_rfl)) rfl ?_
  · exact hby.out.result [.int .i64 x.1, .slice (some ⟨v0.heap.size, 0, none⟩) n0 n0, .slice (some ⟨v1.heap.size, 0, none⟩) n1 n1, .bool x.2.2.2.1, .bool x.2.2.2.2.1, .slice (some ⟨v2.heap.size, 0, none⟩) n2 n2, .slice (some ⟨v3.heap.size, 0, none⟩) n3 n3, .slice (some ⟨v4.heap.size, 0, none⟩) n4 n4, .slice (some ⟨v5.heap.size, 0, none⟩) n5 n5, .slice (some ⟨v6.heap.size, 0, none⟩) n6 n6, .slice (some ⟨v7.heap.size, 0, none⟩) n7 n7, .slice a8' n8' c8', .int .i64 x.2.2.2.2.2.2.2.2.2.2.2.2.1, .bool x.2.2.2.2.2.2.2.2.2.2.2.2.2] rfl
  refine ⟨[.int .i64 x.1, .slice (some ⟨v0.heap.size, 0, none⟩) n0 n0, .slice (some ⟨v1.heap.size, 0, none⟩) n1 n1, .bool x.2.2.2.1, .bool x.2.2.2.2.1, .slice (some ⟨v2.heap.size, 0, none⟩) n2 n2, .slice (some ⟨v3.heap.size, 0, none⟩) n3 n3, .slice (some ⟨v4.heap.size, 0, none⟩) n4 n4, .slice (some ⟨v5.heap.size, 0, none⟩) n5 n5, .slice (some ⟨v6.heap.size, 0, none⟩) n6 n6, .slice (some ⟨v7.heap.size, 0, none⟩) n7 n7, .slice a8' n8' c8', .int .i64 x.2.2.2.2.2.2.2.2.2.2.2.2.1, .bool x.2.2.2.2.2.2.2.2.2.2.2.2.2], rfl, ?_, hby.out.last [.int .i64 x.1, .slice (some ⟨v0.heap.size, 0, none⟩) n0 n0, .slice (some ⟨v1.heap.size, 0, none⟩) n1 n1, .bool x.2.2.2.1, .bool x.2.2.2.2.1, .slice (some ⟨v2.heap.size, 0, none⟩) n2 n2, .slice (some ⟨v3.heap.size, 0, none⟩) n3 n3, .slice (some ⟨v4.heap.size, 0, none⟩) n4 n4, .slice (some ⟨v5.heap.size, 0, none⟩) n5 n5, .slice (some ⟨v6.heap.size, 0, none⟩) n6 n6, .slice (some ⟨v7.heap.size, 0, none⟩) n7 n7, .slice a8' n8' c8', .int .i64 x.2.2.2.2.2.2.2.2.2.2.2.2.1, .bool x.2.2.2.2.2.2.2.2.2.2.2.2.2]⟩
  refine ownStage_owns.2 ⟨_, _, _, _, _, _, _, _, _, _, _, _, _, _, _, _, _, _, _, _, _, _, _, _, _, _, _, FromB v0.heap.size w1.heap.size, FromB v1.heap.size w2.heap.size, FromB v2.heap.size w3.heap.size, FromB v3.heap.size w4.heap.size, FromB v4.heap.size w5.heap.size, FromB v5.heap.size w6.heap.size, FromB v6.heap.size w7.heap.size, FromB v7.heap.size w8.heap.size, FromB v8.heap.size w9.heap.size, rfl, ⟨Nat.le_refl _, by omega, (O0_8.out.storedAll (w.heap.size + 1) 0 [.int .i64 x.1, .slice (some ⟨v0.heap.size, 0, none⟩) n0 n0, .slice (some ⟨v1.heap.size, 0, none⟩) n1 n1, .bool x.2.2.2.1, .bool x.2.2.2.2.1, .slice (some ⟨v2.heap.size, 0, none⟩) n2 n2, .slice (some ⟨v3.heap.size, 0, none⟩) n3 n3, .slice (some ⟨v4.heap.size, 0, none⟩) n4 n4, .slice (some ⟨v5.heap.size, 0, none⟩) n5 n5, .slice (some ⟨v6.heap.size, 0, none⟩) n6 n6, .slice (some ⟨v7.heap.size, 0, none⟩) n7 n7, .slice a8' n8' c8', .int .i64 x.2.2.2.2.2.2.2.2.2.2.2.2.1, .bool x.2.2.2.2.2.2.2.2.2.2.2.2.2] (by omega))⟩, ⟨Nat.le_refl _, by omega, (O1_8.out.storedAll (w.heap.size + 1) 0 [.int .i64 x.1, .slice (some ⟨v0.heap.size, 0, none⟩) n0 n0, .slice (some ⟨v1.heap.size, 0, none⟩) n1 n1, .bool x.2.2.2.1, .bool x.2.2.2.2.1, .slice (some ⟨v2.heap.size, 0, none⟩) n2 n2, .slice (some ⟨v3.heap.size, 0, none⟩) n3 n3, .slice (some ⟨v4.heap.size, 0, none⟩) n4 n4, .slice (some ⟨v5.heap.size, 0, none⟩) n5 n5, .slice (some ⟨v6.heap.size, 0, none⟩) n6 n6, .slice (some ⟨v7.heap.size, 0, none⟩) n7 n7, .slice a8' n8' c8', .int .i64 x.2.2.2.2.2.2.2.2.2.2.2.2.1, .bool x.2.2.2.2.2.2.2.2.2.2.2.2.2] (by omega))⟩, ⟨Nat.le_refl _, by omega, (O2_8.out.storedAll (w.heap.size + 1) 0 [.int .i64 x.1, .slice (some ⟨v0.heap.size, 0, none⟩) n0 n0, .slice (some ⟨v1.heap.size, 0, none⟩) n1 n1, .bool x.2.2.2.1, .bool x.2.2.2.2.1, .slice (some ⟨v2.heap.size, 0, none⟩) n2 n2, .slice (some ⟨v3.heap.size, 0, none⟩) n3 n3, .slice (some ⟨v4.heap.size, 0, none⟩) n4 n4, .slice (some ⟨v5.heap.size, 0, none⟩) n5 n5, .slice (some ⟨v6.heap.size, 0, none⟩) n6 n6, .slice (some ⟨v7.heap.size, 0, none⟩) n7 n7, .slice a8' n8' c8', .int .i64 x.2.2.2.2.2.2.2.2.2.2.2.2.1, .bool x.2.2.2.2.2.2.2.2.2.2.2.2.2] (by omega))⟩, ⟨Nat.le_refl _, by omega, (O3_8.out.storedAll (w.heap.size + 1) 0 [.int .i64 x.1, .slice (some ⟨v0.heap.size, 0, none⟩) n0 n0, .slice (some ⟨v1.heap.size, 0, none⟩) n1 n1, .bool x.2.2.2.1, .bool x.2.2.2.2.1, .slice (some ⟨v2.heap.size, 0, none⟩) n2 n2, .slice (some ⟨v3.heap.size, 0, none⟩) n3 n3, .slice (some ⟨v4.heap.size, 0, none⟩) n4 n4, .slice (some ⟨v5.heap.size, 0, none⟩) n5 n5, .slice (some ⟨v6.heap.size, 0, none⟩) n6 n6, .slice (some ⟨v7.heap.size, 0, none⟩) n7 n7, .slice a8' n8' c8', .int .i64 x.2.2.2.2.2.2.2.2.2.2.2.2.1, .bool x.2.2.2.2.2.2.2.2.2.2.2.2.2] (by omega))⟩, ⟨Nat.le_refl _, by omega, (O4_8.out.storedAll (w.heap.size + 1) 0 [.int .i64 x.1, .slice (some ⟨v0.heap.size, 0, none⟩) n0 n0, .slice (some ⟨v1.heap.size, 0, none⟩) n1 n1, .bool x.2.2.2.1, .bool x.2.2.2.2.1, .slice (some ⟨v2.heap.size, 0, none⟩) n2 n2, .slice (some ⟨v3.heap.size, 0, none⟩) n3 n3, .slice (some ⟨v4.heap.size, 0, none⟩) n4 n4, .slice (some ⟨v5.heap.size, 0, none⟩) n5 n5, .slice (some ⟨v6.heap.size, 0, none⟩) n6 n6, .slice (some ⟨v7.heap.size, 0, none⟩) n7 n7, .slice a8' n8' c8', .int .i64 x.2.2.2.2.2.2.2.2.2.2.2.2.1, .bool x.2.2.2.2.2.2.2.2.2.2.2.2.2] (by omega))⟩, ⟨Nat.le_refl _, by omega, (O5_8.out.storedAll (w.heap.size + 1) 0 [.int .i64 x.1, .slice (some ⟨v0.heap.size, 0, none⟩) n0 n0, .slice (some ⟨v1.heap.size, 0, none⟩) n1 n1, .bool x.2.2.2.1, .bool x.2.2.2.2.1, .slice (some ⟨v2.heap.size, 0, none⟩) n2 n2, .slice (some ⟨v3.heap.size, 0, none⟩) n3 n3, .slice (some ⟨v4.heap.size, 0, none⟩) n4 n4, .slice (some ⟨v5.heap.size, 0, none⟩) n5 n5, .slice (some ⟨v6.heap.size, 0, none⟩) n6 n6, .slice (some ⟨v7.heap.size, 0, none⟩) n7 n7, .slice a8' n8' c8', .int .i64 x.2.2.2.2.2.2.2.2.2.2.2.2.1, .bool x.2.2.2.2.2.2.2.2.2.2.2.2.2] (by omega))⟩, ⟨Nat.le_refl _, by omega, (O6_8.out.storedAll (w.heap.size + 1) 0 [.int .i64 x.1, .slice (some ⟨v0.heap.size, 0, none⟩) n0 n0, .slice (some ⟨v1.heap.size, 0, none⟩) n1 n1, .bool x.2.2.2.1, .bool x.2.2.2.2.1, .slice (some ⟨v2.heap.size, 0, none⟩) n2 n2, .slice (some ⟨v3.heap.size, 0, none⟩) n3 n3, .slice (some ⟨v4.heap.size, 0, none⟩) n4 n4, .slice (some ⟨v5.heap.size, 0, none⟩) n5 n5, .slice (some ⟨v6.heap.size, 0, none⟩) n6 n6, .slice (some ⟨v7.heap.size, 0, none⟩) n7 n7, .slice a8' n8' c8', .int .i64 x.2.2.2.2.2.2.2.2.2.2.2.2.1, .bool x.2.2.2.2.2.2.2.2.2.2.2.2.2] (by omega))⟩, ⟨Nat.le_refl _, by omega, (O7_8.out.storedAll (w.heap.size + 1) 0 [.int .i64 x.1, .slice (some ⟨v0.heap.size, 0, none⟩) n0 n0, .slice (some ⟨v1.heap.size, 0, none⟩) n1 n1, .bool x.2.2.2.1, .bool x.2.2.2.2.1, .slice (some ⟨v2.heap.size, 0, none⟩) n2 n2, .slice (some ⟨v3.heap.size, 0, none⟩) n3 n3, .slice (some ⟨v4.heap.size, 0, none⟩) n4 n4, .slice (some ⟨v5.heap.size, 0, none⟩) n5 n5, .slice (some ⟨v6.heap.size, 0, none⟩) n6 n6, .slice (some ⟨v7.heap.size, 0, none⟩) n7 n7, .slice a8' n8' c8', .int .i64 x.2.2.2.2.2.2.2.2.2.2.2.2.1, .bool x.2.2.2.2.2.2.2.2.2.2.2.2.2] (by omega))⟩, ⟨p8', r8', (O8_8.out.storedAll (w.heap.size + 1) 0 [.int .i64 x.1, .slice (some ⟨v0.heap.size, 0, none⟩) n0 n0, .slice (some ⟨v1.heap.size, 0, none⟩) n1 n1, .bool x.2.2.2.1, .bool x.2.2.2.2.1, .slice (some ⟨v2.heap.size, 0, none⟩) n2 n2, .slice (some ⟨v3.heap.size, 0, none⟩) n3 n3, .slice (some ⟨v4.heap.size, 0, none⟩) n4 n4, .slice (some ⟨v5.heap.size, 0, none⟩) n5 n5, .slice (some ⟨v6.heap.size, 0, none⟩) n6 n6, .slice (some ⟨v7.heap.size, 0, none⟩) n7 n7, .slice a8' n8' c8', .int .i64 x.2.2.2.2.2.2.2.2.2.2.2.2.1, .bool x.2.2.2.2.2.2.2.2.2.2.2.2.2] (by omega))⟩, fun b o f => ⟨by have := f.1; omega, by have h2 := f.2; simp; omega⟩, fun b o f => ⟨by have := f.1; omega, by have h2 := f.2; simp; omega⟩, fun b o f => ⟨by have := f.1; omega, by have h2 := f.2; simp; omega⟩, fun b o f => ⟨by have := f.1; omega, by have h2 := f.2; simp; omega⟩, fun b o f => ⟨by have := f.1; omega, by have h2 := f.2; simp; omega⟩, fun b o f => ⟨by have := f.1; omega, by have h2 := f.2; simp; omega⟩, fun b o f => ⟨by have := f.1; omega, by have h2 := f.2; simp; omega⟩, fun b o f => ⟨by have := f.1; omega, by have h2 := f.2; simp; omega⟩, fun b o f => ⟨by have := f.1; omega, by have h2 := f.2; simp; omega⟩, fromB_apart (by omega), fromB_apart (by omega), fromB_apart (by omega), fromB_apart (by omega), fromB_apart (by omega), fromB_apart (by omega), fromB_apart (by omega), fromB_apart (by omega), fromB_apart (by omega), fromB_apart (by omega), fromB_apart (by omega), fromB_apart (by omega), fromB_apart (by omega), fromB_apart (by omega), fromB_apart (by omega), fromB_apart (by omega), fromB_apart (by omega), fromB_apart (by omega), fromB_apart (by omega), fromB_apart (by omega), fromB_apart (by omega), fromB_apart (by omega), fromB_apart (by omega), fromB_apart (by omega), fromB_apart (by omega), fromB_apart (by omega), fromB_apart (by omega), fromB_apart (by omega), fromB_apart (by omega), fromB_apart (by omega), fromB_apart (by omega), fromB_apart (by omega), fromB_apart (by omega), fromB_apart (by omega), fromB_apart (by omega), fromB_apart (by omega)⟩
end Go.Proofs.Ytpnifgpmleaohaa

end

/-! YtpnifgpmleaohaaMarkS -/
section

namespace Go.Proofs.Ytpnifgpmleaohaa
open Go.RowKit
set_option linter.unusedVariables false
set_option linter.unusedSimpArgs false


/-- A call that makes memory of its own, between two that write cells of a set: as if it had made it first. -/
theorem touched_swap {F : Foot} {wa w8 w1 w9 : World} (h1 : Touched F wa w8) (hb : Below w8.heap.size w8 w1) (h2 : Touched F w1 w9) (hF : ∀ b o, F b o → b < wa.heap.size) : ∃ wy, Below wa.heap.size wa wy ∧ Touched F wy w9 := by
  have hs1 : w8.heap.size = wa.heap.size := h1.size
  have hs9 : wa.heap.size ≤ w9.heap.size := by rw [h2.size]; have := hb.size; omega
  have hy : ∀ b, ({ w9 with heap := wa.heap ++ w9.heap.extract wa.heap.size w9.heap.size } : World).heap[b]? = if b < wa.heap.size then wa.heap[b]? else w9.heap[b]? := fun b => by
    show (wa.heap ++ w9.heap.extract wa.heap.size w9.heap.size)[b]? = _
    by_cases hlt : b < wa.heap.size
    · rw [if_pos hlt, Array.getElem?_append_left hlt]
    · rw [if_neg hlt, Array.getElem?_append_right (by omega), Array.getElem?_extract]
      by_cases h9 : b < w9.heap.size
      · rw [if_pos (by omega)]
        congr 1
        omega
      · rw [if_neg (by omega), Array.getElem?_eq_none (by omega)]
  have hlo : ∀ b, b < wa.heap.size → ({ w9 with heap := wa.heap ++ w9.heap.extract wa.heap.size w9.heap.size } : World).heap[b]? = wa.heap[b]? := fun b h => by rw [hy, if_pos h]
  have hhi : ∀ b, ¬ b < wa.heap.size → ({ w9 with heap := wa.heap ++ w9.heap.extract wa.heap.size w9.heap.size } : World).heap[b]? = w9.heap[b]? := fun b h => by rw [hy, if_neg h]
  have hsz : ({ w9 with heap := wa.heap ++ w9.heap.extract wa.heap.size w9.heap.size } : World).heap.size = w9.heap.size := by
    show (wa.heap ++ w9.heap.extract wa.heap.size w9.heap.size).size = _
    simp
    omega
  have hcell : ∀ b o, b < wa.heap.size → ¬ F b o → w9.cell? ⟨b, o, none⟩ = wa.cell? ⟨b, o, none⟩ := fun b o hl f =>
    (h2.cell b o f).trans ((hb.cell (p := ⟨b, o, none⟩) (by show b < _; omega)).trans (h1.cell b o f))
  have hfr : ∀ b o, b < wa.heap.size → w9.frozen? ⟨b, o, none⟩ = wa.frozen? ⟨b, o, none⟩ := fun b o hl =>
    (h2.frozen b o).trans ((hb.frozen (p := ⟨b, o, none⟩) (by show b < _; omega)).trans (h1.frozen b o))
  refine ⟨{ w9 with heap := wa.heap ++ w9.heap.extract wa.heap.size w9.heap.size }, ⟨h2.os.trans (hb.os.trans h1.os), h2.tape.trans (hb.tape.trans h1.tape), h2.output.trans (hb.output.trans h1.output), by rw [hsz]; exact hs9, fun b hl => hlo b hl⟩,
    ⟨rfl, rfl, rfl, hsz.symm, fun b o f => ?_, fun b o => ?_, fun b f => ?_, fun b o h => ?_⟩⟩
  · by_cases hl : b < wa.heap.size
    · rw [hcell b o hl f]
      exact (World.cell?_of_block (a := ⟨b, o, none⟩) (hlo b hl)).symm
    · exact (World.cell?_of_block (a := ⟨b, o, none⟩) (hhi b hl)).symm
  · by_cases hl : b < wa.heap.size
    · rw [hfr b o hl]
      exact (World.frozen?_of_block (a := ⟨b, o, none⟩) (hlo b hl)).symm
    · exact (World.frozen?_of_block (a := ⟨b, o, none⟩) (hhi b hl)).symm
  · by_cases hl : b < wa.heap.size
    · rw [hlo b hl]
      exact (h2.block b f).trans ((hb.block b (by omega)).trans (h1.block b f))
    · rw [hhi b hl]
  · by_cases hl : b < wa.heap.size
    · rw [World.cell?_of_block (a := ⟨b, o, none⟩) (hlo b hl)] at h
      have h8 := h1.some b o h
      rw [← hb.cell (p := ⟨b, o, none⟩) (by show b < _; omega)] at h8
      exact h2.some b o h8
    · rwa [World.cell?_of_block (a := ⟨b, o, none⟩) (hhi b hl)] at h

set_option maxRecDepth 100000 in
set_option maxHeartbeats 3200000 in
theorem markSavedS_o (w : World) (F : Foot) (a : Option Addr) (n c : Nat) (xs : List dSaved) (k0 : Int) (h : OwnList ownSaved F w a n xs) (hbl : looseSavedS xs) (hk0 : 0 ≤ k0) (hc : k0 + (Shape.sum ownSaved.ct xs : Nat) ≤ 4611686018427387904) :
    Calls Try.prog 46 #[.slice a n c, .int .i64 k0] w fun e w' => e = .returned (.int .i64 (k0 + (Shape.sum ownSaved.ct xs : Nat))) ∧ OwnList ownSaved F w' a n (Owned.mkL ownSaved.mark ownSaved.ct xs k0) ∧ Touched F w w' := by
  obtain ⟨hb, hbe⟩ := hbl
  have HBE := Lib.hid hbe
  clear hbe
  have hlen := h.1
  have hbs : n + Shape.sum shSaved.bulk xs ≤ 2097152 := by rw [← hlen]; exact hb
  have hn1 : n ≤ 2097152 := by omega
  have HB : Hid (Shape.sum shSaved.bulk xs ≤ 2097152) := Lib.hid (by omega)
  clear hbs
  have HC := Lib.hid hc
  have HLEN := Lib.hid hlen
  obtain ⟨R, hR⟩ : ∃ R : Int, k0 + (Shape.sum ownSaved.ct xs : Nat) = R := ⟨_, rfl⟩
  rw [hR]
  have HR := Lib.hid hR
  by_cases hn : 0 < n
  · obtain ⟨b, o, G, rfl, hm⟩ := h.marking hn
    have HM := Lib.hid hm
    clear h hb hc hlen hm hR
    go_enter Try.func46, Try.ntmps46
    go_wp2_with fail
    go_loopw [5, 1] (fun i k wr => ∃ (j : Nat) (V : Int), j ≤ n ∧ i = .int .i64 j ∧ k = .int .i64 V ∧ Hid (V = k0 + (Shape.sum ownSaved.ct (xs.take j) : Nat)) ∧ Marking ownSaved F w wr b o n G (part ownSaved.mark ownSaved.ct xs k0 j)) (fun i _ _ => n - (intOf i).toNat)
    case atStart => exact ⟨0, k0, Nat.zero_le _, rfl, rfl, Lib.hid (by simp [Shape.sum]), by rw [part_zero]; exact HM.out⟩
    case round =>
      obtain ⟨j, V, hj, rfl, rfl, hV, hmk⟩ := hrel
      by_cases hlt : j < n
      · obtain ⟨x, hx⟩ : ∃ x, xs[j]? = some x := ⟨_, List.getElem?_eq_getElem (by rw [HLEN.out]; exact hlt)⟩
        have hy := (part_get ownSaved.mark ownSaved.ct xs k0 j (by rw [HLEN.out]; exact hj)).trans hx
        obtain ⟨es, hr, hs⟩ := hmk.elems j x hy
        have hG := hmk.inF j
        have hst := sum_take ownSaved.ct xs j x hx
        have hsl := sum_take_le ownSaved.ct xs (j + 1)
        have hV0 : 0 ≤ V := by rw [hV.out]; omega
        have hVc : V + (ownSaved.ct x : Nat) ≤ 4611686018427387904 := by have h1 := HC.out; have h2 := hV.out; omega
        have hbx : shSaved.bulk x ≤ 1048576 := HBE.out x (List.mem_of_getElem? hx)
        have HST := Lib.hid hst
        have HX := Lib.hid hx
        have HMK := Lib.hid hmk
        have hp : Placing b (o + j * ownSaved.size) ownSaved.size (G j) wr wr es := ⟨Touched.refl _ _, there_part hmk.there (by omega) (by have := place_le (s := ownSaved.size) hlt; omega), hr, ownSaved.owns_len hs⟩
        obtain ⟨a0_, n0_, c0_, rfl, ⟨x0, y0, l0⟩⟩ := ownSaved_owns.1 hs
        rw [ownSaved_size] at hp
        have hA : ∀ b' o', G j b' o' → ¬ Cells b (o + j * 2) 2 b' o' := fun b' o' g c => (hG b' o' g).2 ⟨c.1, by have := c.2.1; omega, by have := place_le (s := 2) hlt; have h3 := c.2.2; rw [ownSaved_size]; omega⟩
        rw [shSaved_bulk] at hbx
        have hct : ownSaved.ct x = 1 + Shape.sum ownRow.ct x.2 := by simp only [ownSaved, Owned.struct, OwnedFields.cons, OwnedFields.last, Owned.int, Owned.bool, Owned.list] <;> omega
        rw [hct] at hVc
        have c0 := hp.range 0 _ rfl
        have f0 := (hp.there 0 (by omega)).2
        have c1 := hp.range 1 _ rfl
        have f1 := (hp.there 1 (by omega)).2
        simp only [Nat.add_zero] at c0 f0
        have hp0 := (hp.store 0 (by omega) (.int .i64 (V)))
        have m0_0 := (OwnList.keep l0 (Placing.same (b := b) (o := o + j * 2) (s := 2) (G := G j) 0 (by omega) (.int .i64 (V)) (fun _ _ g => g) hA))
        have HP := Lib.hid hp0
        have HL0 := Lib.hid m0_0
        clear hp hp0 m0_0 l0
        have HCt : Hid (V + 1 + (Shape.sum ownRow.ct x.2 : Nat) ≤ 4611686018427387904) := Lib.hid (by omega)
        go_wp2_with fail
        clear c0 f0 c1 f1
        generalize (wr.setCell ⟨b, o + j * 2, none⟩ (.int .i64 (V))) = we0 at HP HL0 ⊢
        refine (markRowS_o we0 _ _ _ _ _ (V + 1) HL0.out (by omega) (by omega) HCt.out).mono ?_
        rintro e w1 ⟨rfl, ho0, ht0⟩
        clear HCt
        have hpq0 := HP.out.call ht0 (fun _ _ g => g) hA
        have l0 := ho0
        clear HP HL0 ht0
        obtain ⟨V0, hV0⟩ : ∃ V', V + 1 + (Shape.sum ownRow.ct x.2 : Nat) = V' := ⟨_, rfl⟩
        rw [hV0]
        have HV0 := Lib.hid hV0
        have hVb0 : 0 ≤ V0 ∧ V0 ≤ 4611686018427387904 := by omega
        clear hV0
        have c0 := hpq0.range 0 _ rfl
        have f0 := (hpq0.there 0 (by omega)).2
        have c1 := hpq0.range 1 _ rfl
        have f1 := (hpq0.there 1 (by omega)).2
        simp only [Nat.add_zero] at c0 f0
        have hown := ownSaved_owns (F := G j) (d := ((V), (Owned.mkL ownRow.mark ownRow.ct x.2 (V + 1)))).2 ⟨_, _, _, rfl, ⟨x0, y0, l0⟩⟩
        have hmv : ownSaved.mark x V = ((V), (Owned.mkL ownRow.mark ownRow.ct x.2 (V + 1))) := by
          simp only [ownSaved, Owned.struct, OwnedFields.cons, OwnedFields.last, Owned.int, Owned.bool, Owned.list]
          try simp
          try (refine ⟨?_, ?_⟩ <;> rfl)
        have hN := HMK.out.step (k := j) (es' := _) hlt (by rw [ownSaved_size]; exact hpq0.touched) (by rw [ownSaved_size]; exact hpq0.range) hown
        rw [← hmv, hV.out, ← part_succ ownSaved.mark ownSaved.ct xs k0 j x HX.out] at hN
        have HN := Lib.hid hN
        clear hN hown hmv 
        go_wp2_with fail
        go_round
        case rel => exact ⟨j + 1, _, by omega, by go_num, rfl, Lib.hid (by have e1 := HST.out; have e2 := hV.out; have g0 := HV0.out; rw [e1]; rw [hct]; omega), HN.out⟩
        case measure => simp [intOf]; omega
      · obtain rfl : j = n := by omega
        have hVR : V = R := by
          have e1 := hV.out
          rw [List.take_of_length_le (by rw [HLEN.out]; exact Nat.le_refl _), HR.out] at e1
          exact e1
        subst hVR
        have hfin := hmk.own
        rw [← HLEN.out, part_all] at hfin
        rw [HLEN.out] at hfin
        have HF := Lib.hid hfin
        have HT := Lib.hid hmk.touched
        clear hmk hfin
        go_wp2_with fail
        go_ret
        exact ⟨rfl, HF.out, HT.out⟩
  · obtain rfl : n = 0 := by omega
    obtain rfl : xs = [] := List.eq_nil_of_length_eq_zero hlen
    have hR0 : R = k0 := by rw [← hR]; simp [Shape.sum]
    subst hR0
    clear h hb hc hR HR HC
    go_enter Try.func46, Try.ntmps46
    go_wp2_with fail
    go_loop [5, 1] (fun i k => i = .int .i64 0 ∧ k = .int .i64 R) (fun _ _ => 0)
    case atStart => exact ⟨rfl, rfl⟩
    case round =>
      obtain ⟨rfl, rfl⟩ := hrel
      go_wp2_with fail
      go_ret
      exact ⟨rfl, ⟨rfl, .inl rfl⟩, Touched.refl _ _⟩
set_option maxRecDepth 100000 in
set_option maxHeartbeats 1600000 in
theorem heldSavedS_o (w : World) (B : Nat) (a : Option Addr) (n c : Nat) (xs : List dSaved) (k0 : Int) (h : ListAt shSaved (Under B) w a n (Owned.mkL ownSaved.mark ownSaved.ct xs k0)) (hbl : looseSavedS xs) (hk0 : 0 ≤ k0) (hc : k0 + (Shape.sum ownSaved.ct xs : Nat) ≤ 4611686018427387904) :
    Calls Try.prog 51 #[.slice a n c, .int .i64 k0] w fun e w' => e = .returned (.int .i64 (k0 + (Shape.sum ownSaved.ct xs : Nat))) ∧ w = w' := by
  obtain ⟨hb, hbe⟩ := hbl
  have HBE := Lib.hid hbe
  clear hbe
  have hlen : xs.length = n := by rw [← h.1, Owned.mkL_length]
  have hbs : n + Shape.sum shSaved.bulk xs ≤ 2097152 := by rw [← hlen]; exact hb
  have hn1 : n ≤ 2097152 := by omega
  have HB : Hid (Shape.sum shSaved.bulk xs ≤ 2097152) := Lib.hid (by omega)
  have HC := Lib.hid hc
  have HLEN := Lib.hid hlen
  have HL := Lib.hid h
  obtain ⟨R, hR⟩ : ∃ R : Int, k0 + (Shape.sum ownSaved.ct xs : Nat) = R := ⟨_, rfl⟩
  rw [hR]
  have HR := Lib.hid hR
  clear h hb hc hlen hR hbs
  go_enter Try.func51, Try.ntmps51
  go_wp2_with fail
  go_loop [5, 1] (fun i k => ∃ (j : Nat) (V : Int), j ≤ n ∧ i = .int .i64 j ∧ k = .int .i64 V ∧ Hid (V = k0 + (Shape.sum ownSaved.ct (xs.take j) : Nat))) (fun i _ => n - (intOf i).toNat)
  case atStart => exact ⟨0, k0, Nat.zero_le _, rfl, rfl, Lib.hid (by simp [Shape.sum])⟩
  case round =>
    obtain ⟨j, V, hj, rfl, rfl, hV⟩ := hrel
    by_cases hlt : j < n
    · obtain ⟨x, hx⟩ : ∃ x, xs[j]? = some x := ⟨_, List.getElem?_eq_getElem (by rw [HLEN.out]; exact hlt)⟩
      obtain ⟨b, o, es, rfl, hbB, hr, hs⟩ := HL.out.2 j _ (mkL_get ownSaved.mark ownSaved.ct xs k0 j x hx)
      have hst := sum_take ownSaved.ct xs j x hx
      have hsl := sum_take_le ownSaved.ct xs (j + 1)
      have hV0 : 0 ≤ V := by rw [hV.out]; omega
      have hVc : V + (ownSaved.ct x : Nat) ≤ 4611686018427387904 := by have h1 := HC.out; have h2 := hV.out; omega
      have hbx : shSaved.bulk x ≤ 1048576 := HBE.out x (List.mem_of_getElem? hx)
      have HST := Lib.hid hst
      rw [← hV.out] at hs
      obtain ⟨a0_, n0_, c0_, rfl, -, -, l0⟩ := shSaved_reads.1 hs
      rw [shSaved_size] at hr
      rw [shSaved_bulk] at hbx
      have hct : ownSaved.ct x = 1 + Shape.sum ownRow.ct x.2 := by simp only [ownSaved, Owned.struct, OwnedFields.cons, OwnedFields.last, Owned.int, Owned.bool, Owned.list] <;> omega
      rw [hct] at hVc
      have c0 := hr 0 _ rfl
      have c1 := hr 1 _ rfl
      simp only [Nat.add_zero] at c0
      have hl0 : ListAt shRow (Under B) w a0_ n0_ (Owned.mkL ownRow.mark ownRow.ct x.2 (V + 1)) := by
        have := l0
        simpa [ownSaved, Owned.struct, OwnedFields.cons, OwnedFields.last, Owned.int, Owned.bool, Owned.list] using this
      replace c0 : w.cell? ⟨b, o + j * 2, none⟩ = some (.int .i64 (V)) := by
        have := c0
        simpa [ownSaved, Owned.struct, OwnedFields.cons, OwnedFields.last, Owned.int, Owned.bool, Owned.list, Int.add_assoc] using this
      clear hs l0 hx hr
      have hc0 := heldRowS_o w B a0_ n0_ c0_ x.2 (V + 1) hl0 (by omega) (by omega) (by omega)
      obtain ⟨V0, hV0⟩ : ∃ V', V + 1 + (Shape.sum ownRow.ct x.2 : Nat) = V' := ⟨_, rfl⟩
      rw [hV0] at hc0
      have t0 : decide (V0 < 0) = false := decide_eq_false (by omega)
      have HV0 := Lib.hid hV0
      have hVb0 : 0 ≤ V0 ∧ V0 ≤ 4611686018427387904 := by omega
      have HC0 := Lib.hid hc0
      clear hV0 hc0
      go_wp2_with fail
      refine HC0.out.mono ?_
      rintro e w' ⟨rfl, rfl⟩
      go_wp2_with fail
      go_round
      case rel => exact ⟨j + 1, _, by omega, by go_num, rfl, Lib.hid (by have e1 := HST.out; have e2 := hV.out; have g0 := HV0.out; rw [e1]; rw [hct]; omega)⟩
      case measure => simp [intOf]; omega
    · obtain rfl : j = n := by omega
      have hVR : V = R := by
        have e1 := hV.out
        rw [List.take_of_length_le (by rw [HLEN.out]; exact Nat.le_refl _), HR.out] at e1
        exact e1
      subst hVR
      go_wp2_with fail
      go_ret
      exact ⟨rfl, rfl⟩
theorem ownSaved_ctT (x : dSaved) : ownSaved.ctT x = Shape.sum ownRow.ct x.2 := by
  simp only [ownSaved, Owned.struct, OwnedFields.cons, OwnedFields.last, Owned.int, Owned.bool, Owned.list]
  try omega
theorem ownStage_ctT (x : dStage) : ownStage.ctT x = Shape.sum ownIns.ct x.2.1 + Shape.sum ownOp.ct x.2.2.1 + Shape.sum ownSaved.ct x.2.2.2.2.2.1 + Shape.sum ownRow.ct x.2.2.2.2.2.2.1 + Shape.sum Owned.int.ct x.2.2.2.2.2.2.2.1 + Shape.sum Owned.int.ct x.2.2.2.2.2.2.2.2.1 + Shape.sum Owned.int.ct x.2.2.2.2.2.2.2.2.2.1 + Shape.sum Owned.int.ct x.2.2.2.2.2.2.2.2.2.2.1 + Shape.sum ownRow.ct x.2.2.2.2.2.2.2.2.2.2.2.1 := by
  simp only [ownStage, Owned.struct, OwnedFields.cons, OwnedFields.last, Owned.int, Owned.bool, Owned.list, ownGrads]
  try omega
set_option maxRecDepth 100000 in
set_option maxHeartbeats 6400000 in
theorem markStage_o (w : World) (F : Foot) (es : List Value) (x : dStage) (k0 : Int) (h : ownStage.owns F w es x) (hF : ∀ b o, F b o → b < w.heap.size) (hb : smallStage x) (hk0 : 0 ≤ k0) (hc : k0 + (ownStage.ctT x : Nat) ≤ 4611686018427387904) :
    Calls Try.prog 18 #[.agg es.toArray, .int .i64 k0] w fun e w' => e = .returned (.int .i64 (k0 + (ownStage.ctT x : Nat))) ∧ ownStage.owns F w' es (ownStage.markT x k0) ∧ ∃ w1, Below w.heap.size w w1 ∧ Touched F w1 w' := by
  obtain ⟨a0_, n0_, c0_, a1_, n1_, c1_, a2_, n2_, c2_, a3_, n3_, c3_, a4_, n4_, c4_, a5_, n5_, c5_, a6_, n6_, c6_, a7_, n7_, c7_, a8_, n8_, c8_, G0, G1, G2, G3, G4, G5, G6, G7, G8, rfl, ⟨x0, y0, l0⟩, ⟨x1, y1, l1⟩, ⟨x2, y2, l2⟩, ⟨x3, y3, l3⟩, ⟨x4, y4, l4⟩, ⟨x5, y5, l5⟩, ⟨x6, y6, l6⟩, ⟨x7, y7, l7⟩, ⟨x8, y8, l8⟩, s0, s1, s2, s3, s4, s5, s6, s7, s8, ap0_1, ap0_2, ap0_3, ap0_4, ap0_5, ap0_6, ap0_7, ap0_8, ap1_2, ap1_3, ap1_4, ap1_5, ap1_6, ap1_7, ap1_8, ap2_3, ap2_4, ap2_5, ap2_6, ap2_7, ap2_8, ap3_4, ap3_5, ap3_6, ap3_7, ap3_8, ap4_5, ap4_6, ap4_7, ap4_8, ap5_6, ap5_7, ap5_8, ap6_7, ap6_8, ap7_8⟩ := ownStage_owns.1 h
  rw [ownStage_ctT] at hc ⊢
  obtain ⟨hb0, hb1, hb2, hb3, hb4, hb5, hb6, hb7, hb8⟩ := hb
  have ha := (Below.refl w.heap.size w).alloc (Nat.le_refl _) (.cells #[.int .i64 x.1, .slice a0_ n0_ c0_, .slice a1_ n1_ c1_, .bool x.2.2.2.1, .bool x.2.2.2.2.1, .slice a2_ n2_ c2_, .slice a3_ n3_ c3_, .slice a4_ n4_ c4_, .slice a5_ n5_ c5_, .slice a6_ n6_ c6_, .slice a7_ n7_ c7_, .slice a8_ n8_ c8_, .int .i64 x.2.2.2.2.2.2.2.2.2.2.2.2.1, .bool x.2.2.2.2.2.2.2.2.2.2.2.2.2] 34 (0, 0))
  have hb0 := heap_alloc_new w (.cells #[.int .i64 x.1, .slice a0_ n0_ c0_, .slice a1_ n1_ c1_, .bool x.2.2.2.1, .bool x.2.2.2.2.1, .slice a2_ n2_ c2_, .slice a3_ n3_ c3_, .slice a4_ n4_ c4_, .slice a5_ n5_ c5_, .slice a6_ n6_ c6_, .slice a7_ n7_ c7_, .slice a8_ n8_ c8_, .int .i64 x.2.2.2.2.2.2.2.2.2.2.2.2.1, .bool x.2.2.2.2.2.2.2.2.2.2.2.2.2] 34 (0, 0))
  have l0_0 := l0.keep (.of_below ha fun b o f => hF b o (s0 b o f))
  have l1_0 := l1.keep (.of_below ha fun b o f => hF b o (s1 b o f))
  have l2_0 := l2.keep (.of_below ha fun b o f => hF b o (s2 b o f))
  have l3_0 := l3.keep (.of_below ha fun b o f => hF b o (s3 b o f))
  have l4_0 := l4.keep (.of_below ha fun b o f => hF b o (s4 b o f))
  have l5_0 := l5.keep (.of_below ha fun b o f => hF b o (s5 b o f))
  have l6_0 := l6.keep (.of_below ha fun b o f => hF b o (s6 b o f))
  have l7_0 := l7.keep (.of_below ha fun b o f => hF b o (s7 b o f))
  have l8_0 := l8.keep (.of_below ha fun b o f => hF b o (s8 b o f))
  have HA := Lib.hid ha
  have HB0 := Lib.hid hb0
  have L0 := Lib.hid l0_0
  have L1 := Lib.hid l1_0
  have L2 := Lib.hid l2_0
  have L3 := Lib.hid l3_0
  have L4 := Lib.hid l4_0
  have L5 := Lib.hid l5_0
  have L6 := Lib.hid l6_0
  have L7 := Lib.hid l7_0
  have L8 := Lib.hid l8_0
  have HT : Hid (Touched F (w.alloc (.cells #[.int .i64 x.1, .slice a0_ n0_ c0_, .slice a1_ n1_ c1_, .bool x.2.2.2.1, .bool x.2.2.2.2.1, .slice a2_ n2_ c2_, .slice a3_ n3_ c3_, .slice a4_ n4_ c4_, .slice a5_ n5_ c5_, .slice a6_ n6_ c6_, .slice a7_ n7_ c7_, .slice a8_ n8_ c8_, .int .i64 x.2.2.2.2.2.2.2.2.2.2.2.2.1, .bool x.2.2.2.2.2.2.2.2.2.2.2.2.2] 34 (0, 0))) (w.alloc (.cells #[.int .i64 x.1, .slice a0_ n0_ c0_, .slice a1_ n1_ c1_, .bool x.2.2.2.1, .bool x.2.2.2.2.1, .slice a2_ n2_ c2_, .slice a3_ n3_ c3_, .slice a4_ n4_ c4_, .slice a5_ n5_ c5_, .slice a6_ n6_ c6_, .slice a7_ n7_ c7_, .slice a8_ n8_ c8_, .int .i64 x.2.2.2.2.2.2.2.2.2.2.2.2.1, .bool x.2.2.2.2.2.2.2.2.2.2.2.2.2] 34 (0, 0)))) := Lib.hid (Touched.refl _ _)
  clear h ha hb0 l0 l0_0 l1 l1_0 l2 l2_0 l3 l3_0 l4 l4_0 l5 l5_0 l6 l6_0 l7 l7_0 l8 l8_0
  obtain ⟨V0, hV0⟩ : ∃ V', k0 + (Shape.sum ownIns.ct x.2.1 : Nat) = V' := ⟨_, rfl⟩
  have HV0 := Lib.hid hV0
  obtain ⟨V1, hV1⟩ : ∃ V', V0 + (Shape.sum ownOp.ct x.2.2.1 : Nat) = V' := ⟨_, rfl⟩
  have HV1 := Lib.hid hV1
  obtain ⟨V2, hV2⟩ : ∃ V', V1 + (Shape.sum ownSaved.ct x.2.2.2.2.2.1 : Nat) = V' := ⟨_, rfl⟩
  have HV2 := Lib.hid hV2
  obtain ⟨V3, hV3⟩ : ∃ V', V2 + (Shape.sum ownRow.ct x.2.2.2.2.2.2.1 : Nat) = V' := ⟨_, rfl⟩
  have HV3 := Lib.hid hV3
  obtain ⟨V4, hV4⟩ : ∃ V', V3 + (Shape.sum Owned.int.ct x.2.2.2.2.2.2.2.1 : Nat) = V' := ⟨_, rfl⟩
  have HV4 := Lib.hid hV4
  obtain ⟨V5, hV5⟩ : ∃ V', V4 + (Shape.sum Owned.int.ct x.2.2.2.2.2.2.2.2.1 : Nat) = V' := ⟨_, rfl⟩
  have HV5 := Lib.hid hV5
  obtain ⟨V6, hV6⟩ : ∃ V', V5 + (Shape.sum Owned.int.ct x.2.2.2.2.2.2.2.2.2.1 : Nat) = V' := ⟨_, rfl⟩
  have HV6 := Lib.hid hV6
  obtain ⟨V7, hV7⟩ : ∃ V', V6 + (Shape.sum Owned.int.ct x.2.2.2.2.2.2.2.2.2.2.1 : Nat) = V' := ⟨_, rfl⟩
  have HV7 := Lib.hid hV7
  obtain ⟨V8, hV8⟩ : ∃ V', V7 + (Shape.sum ownRow.ct x.2.2.2.2.2.2.2.2.2.2.2.1 : Nat) = V' := ⟨_, rfl⟩
  have HV8 := Lib.hid hV8
  have hV : k0 + ((Shape.sum ownIns.ct x.2.1 + Shape.sum ownOp.ct x.2.2.1 + Shape.sum ownSaved.ct x.2.2.2.2.2.1 + Shape.sum ownRow.ct x.2.2.2.2.2.2.1 + Shape.sum Owned.int.ct x.2.2.2.2.2.2.2.1 + Shape.sum Owned.int.ct x.2.2.2.2.2.2.2.2.1 + Shape.sum Owned.int.ct x.2.2.2.2.2.2.2.2.2.1 + Shape.sum Owned.int.ct x.2.2.2.2.2.2.2.2.2.2.1 + Shape.sum ownRow.ct x.2.2.2.2.2.2.2.2.2.2.2.1 : Nat) : Int) = V8 := by omega
  rw [hV]
  go_enter Try.func18, Try.ntmps18
  go_wp2_with fail
  generalize hwa : w.alloc (.cells #[.int .i64 x.1, .slice a0_ n0_ c0_, .slice a1_ n1_ c1_, .bool x.2.2.2.1, .bool x.2.2.2.2.1, .slice a2_ n2_ c2_, .slice a3_ n3_ c3_, .slice a4_ n4_ c4_, .slice a5_ n5_ c5_, .slice a6_ n6_ c6_, .slice a7_ n7_ c7_, .slice a8_ n8_ c8_, .int .i64 x.2.2.2.2.2.2.2.2.2.2.2.2.1, .bool x.2.2.2.2.2.2.2.2.2.2.2.2.2] 34 (0, 0)) = wa at HA HB0 HT L0 L1 L2 L3 L4 L5 L6 L7 L8 ⊢
  have hc0 := markInsS_o wa G0 a0_ n0_ c0_ x.2.1 k0 L0.out hb0 (by omega) (by omega)
  rw [HV0.out] at hc0
  have HC0 := Lib.hid hc0
  clear hc0
  refine HC0.out.mono ?_
  rintro e w1 ⟨rfl, ho, ht⟩
  clear HC0
  replace HT := Lib.hid (HT.out.trans (ht.mono s0))
  replace L0 := Lib.hid ho
  replace L1 := Lib.hid (L1.out.keep (ht.same ap0_1))
  replace L2 := Lib.hid (L2.out.keep (ht.same ap0_2))
  replace L3 := Lib.hid (L3.out.keep (ht.same ap0_3))
  replace L4 := Lib.hid (L4.out.keep (ht.same ap0_4))
  replace L5 := Lib.hid (L5.out.keep (ht.same ap0_5))
  replace L6 := Lib.hid (L6.out.keep (ht.same ap0_6))
  replace L7 := Lib.hid (L7.out.keep (ht.same ap0_7))
  replace L8 := Lib.hid (L8.out.keep (ht.same ap0_8))
  replace HB0 := Lib.hid ((ht.block w.heap.size fun o f => by have := hF _ _ (s0 _ _ f); omega).trans HB0.out)
  have z2 := cell_of_row _ w.heap.size 2 _ _ _ HB0.out
  simp only [List.getElem?_toArray, List.getElem?_cons_zero, List.getElem?_cons_succ] at z2
  clear ho ht
  have hc1 := markOpS_o w1 G1 a1_ n1_ c1_ x.2.2.1 V0 L1.out hb1 (by omega) (by omega)
  rw [HV1.out] at hc1
  have HC1 := Lib.hid hc1
  clear hc1
  go_wp2_with fail
  clear z2
  refine HC1.out.mono ?_
  rintro e w2 ⟨rfl, ho, ht⟩
  clear HC1
  replace HT := Lib.hid (HT.out.trans (ht.mono s1))
  replace L0 := Lib.hid (L0.out.keep (ht.same ap0_1.symm))
  replace L1 := Lib.hid ho
  replace L2 := Lib.hid (L2.out.keep (ht.same ap1_2))
  replace L3 := Lib.hid (L3.out.keep (ht.same ap1_3))
  replace L4 := Lib.hid (L4.out.keep (ht.same ap1_4))
  replace L5 := Lib.hid (L5.out.keep (ht.same ap1_5))
  replace L6 := Lib.hid (L6.out.keep (ht.same ap1_6))
  replace L7 := Lib.hid (L7.out.keep (ht.same ap1_7))
  replace L8 := Lib.hid (L8.out.keep (ht.same ap1_8))
  replace HB0 := Lib.hid ((ht.block w.heap.size fun o f => by have := hF _ _ (s1 _ _ f); omega).trans HB0.out)
  have z5 := cell_of_row _ w.heap.size 5 _ _ _ HB0.out
  simp only [List.getElem?_toArray, List.getElem?_cons_zero, List.getElem?_cons_succ] at z5
  clear ho ht
  have hc2 := markSavedS_o w2 G2 a2_ n2_ c2_ x.2.2.2.2.2.1 V1 L2.out hb2 (by omega) (by omega)
  rw [HV2.out] at hc2
  have HC2 := Lib.hid hc2
  clear hc2
  go_wp2_with fail
  clear z5
  refine HC2.out.mono ?_
  rintro e w3 ⟨rfl, ho, ht⟩
  clear HC2
  replace HT := Lib.hid (HT.out.trans (ht.mono s2))
  replace L0 := Lib.hid (L0.out.keep (ht.same ap0_2.symm))
  replace L1 := Lib.hid (L1.out.keep (ht.same ap1_2.symm))
  replace L2 := Lib.hid ho
  replace L3 := Lib.hid (L3.out.keep (ht.same ap2_3))
  replace L4 := Lib.hid (L4.out.keep (ht.same ap2_4))
  replace L5 := Lib.hid (L5.out.keep (ht.same ap2_5))
  replace L6 := Lib.hid (L6.out.keep (ht.same ap2_6))
  replace L7 := Lib.hid (L7.out.keep (ht.same ap2_7))
  replace L8 := Lib.hid (L8.out.keep (ht.same ap2_8))
  replace HB0 := Lib.hid ((ht.block w.heap.size fun o f => by have := hF _ _ (s2 _ _ f); omega).trans HB0.out)
  have z6 := cell_of_row _ w.heap.size 6 _ _ _ HB0.out
  simp only [List.getElem?_toArray, List.getElem?_cons_zero, List.getElem?_cons_succ] at z6
  clear ho ht
  have hc3 := markRowS_o w3 G3 a3_ n3_ c3_ x.2.2.2.2.2.2.1 V2 L3.out hb3 (by omega) (by omega)
  rw [HV3.out] at hc3
  have HC3 := Lib.hid hc3
  clear hc3
  go_wp2_with fail
  clear z6
  refine HC3.out.mono ?_
  rintro e w4 ⟨rfl, ho, ht⟩
  clear HC3
  replace HT := Lib.hid (HT.out.trans (ht.mono s3))
  replace L0 := Lib.hid (L0.out.keep (ht.same ap0_3.symm))
  replace L1 := Lib.hid (L1.out.keep (ht.same ap1_3.symm))
  replace L2 := Lib.hid (L2.out.keep (ht.same ap2_3.symm))
  replace L3 := Lib.hid ho
  replace L4 := Lib.hid (L4.out.keep (ht.same ap3_4))
  replace L5 := Lib.hid (L5.out.keep (ht.same ap3_5))
  replace L6 := Lib.hid (L6.out.keep (ht.same ap3_6))
  replace L7 := Lib.hid (L7.out.keep (ht.same ap3_7))
  replace L8 := Lib.hid (L8.out.keep (ht.same ap3_8))
  replace HB0 := Lib.hid ((ht.block w.heap.size fun o f => by have := hF _ _ (s3 _ _ f); omega).trans HB0.out)
  have z7 := cell_of_row _ w.heap.size 7 _ _ _ HB0.out
  simp only [List.getElem?_toArray, List.getElem?_cons_zero, List.getElem?_cons_succ] at z7
  clear ho ht
  have hc4 := markIntS_o w4 G4 a4_ n4_ c4_ x.2.2.2.2.2.2.2.1 V3 L4.out hb4 (by omega) (by omega)
  rw [HV4.out] at hc4
  have HC4 := Lib.hid hc4
  clear hc4
  go_wp2_with fail
  clear z7
  refine HC4.out.mono ?_
  rintro e w5 ⟨rfl, ho, ht⟩
  clear HC4
  replace HT := Lib.hid (HT.out.trans (ht.mono s4))
  replace L0 := Lib.hid (L0.out.keep (ht.same ap0_4.symm))
  replace L1 := Lib.hid (L1.out.keep (ht.same ap1_4.symm))
  replace L2 := Lib.hid (L2.out.keep (ht.same ap2_4.symm))
  replace L3 := Lib.hid (L3.out.keep (ht.same ap3_4.symm))
  replace L4 := Lib.hid ho
  replace L5 := Lib.hid (L5.out.keep (ht.same ap4_5))
  replace L6 := Lib.hid (L6.out.keep (ht.same ap4_6))
  replace L7 := Lib.hid (L7.out.keep (ht.same ap4_7))
  replace L8 := Lib.hid (L8.out.keep (ht.same ap4_8))
  replace HB0 := Lib.hid ((ht.block w.heap.size fun o f => by have := hF _ _ (s4 _ _ f); omega).trans HB0.out)
  have z8 := cell_of_row _ w.heap.size 8 _ _ _ HB0.out
  simp only [List.getElem?_toArray, List.getElem?_cons_zero, List.getElem?_cons_succ] at z8
  clear ho ht
  have hc5 := markIntS_o w5 G5 a5_ n5_ c5_ x.2.2.2.2.2.2.2.2.1 V4 L5.out hb5 (by omega) (by omega)
  rw [HV5.out] at hc5
  have HC5 := Lib.hid hc5
  clear hc5
  go_wp2_with fail
  clear z8
  refine HC5.out.mono ?_
  rintro e w6 ⟨rfl, ho, ht⟩
  clear HC5
  replace HT := Lib.hid (HT.out.trans (ht.mono s5))
  replace L0 := Lib.hid (L0.out.keep (ht.same ap0_5.symm))
  replace L1 := Lib.hid (L1.out.keep (ht.same ap1_5.symm))
  replace L2 := Lib.hid (L2.out.keep (ht.same ap2_5.symm))
  replace L3 := Lib.hid (L3.out.keep (ht.same ap3_5.symm))
  replace L4 := Lib.hid (L4.out.keep (ht.same ap4_5.symm))
  replace L5 := Lib.hid ho
  replace L6 := Lib.hid (L6.out.keep (ht.same ap5_6))
  replace L7 := Lib.hid (L7.out.keep (ht.same ap5_7))
  replace L8 := Lib.hid (L8.out.keep (ht.same ap5_8))
  replace HB0 := Lib.hid ((ht.block w.heap.size fun o f => by have := hF _ _ (s5 _ _ f); omega).trans HB0.out)
  have z9 := cell_of_row _ w.heap.size 9 _ _ _ HB0.out
  simp only [List.getElem?_toArray, List.getElem?_cons_zero, List.getElem?_cons_succ] at z9
  clear ho ht
  have hc6 := markIntS_o w6 G6 a6_ n6_ c6_ x.2.2.2.2.2.2.2.2.2.1 V5 L6.out hb6 (by omega) (by omega)
  rw [HV6.out] at hc6
  have HC6 := Lib.hid hc6
  clear hc6
  go_wp2_with fail
  clear z9
  refine HC6.out.mono ?_
  rintro e w7 ⟨rfl, ho, ht⟩
  clear HC6
  replace HT := Lib.hid (HT.out.trans (ht.mono s6))
  replace L0 := Lib.hid (L0.out.keep (ht.same ap0_6.symm))
  replace L1 := Lib.hid (L1.out.keep (ht.same ap1_6.symm))
  replace L2 := Lib.hid (L2.out.keep (ht.same ap2_6.symm))
  replace L3 := Lib.hid (L3.out.keep (ht.same ap3_6.symm))
  replace L4 := Lib.hid (L4.out.keep (ht.same ap4_6.symm))
  replace L5 := Lib.hid (L5.out.keep (ht.same ap5_6.symm))
  replace L6 := Lib.hid ho
  replace L7 := Lib.hid (L7.out.keep (ht.same ap6_7))
  replace L8 := Lib.hid (L8.out.keep (ht.same ap6_8))
  replace HB0 := Lib.hid ((ht.block w.heap.size fun o f => by have := hF _ _ (s6 _ _ f); omega).trans HB0.out)
  have z10 := cell_of_row _ w.heap.size 10 _ _ _ HB0.out
  simp only [List.getElem?_toArray, List.getElem?_cons_zero, List.getElem?_cons_succ] at z10
  clear ho ht
  have hc7 := markIntS_o w7 G7 a7_ n7_ c7_ x.2.2.2.2.2.2.2.2.2.2.1 V6 L7.out hb7 (by omega) (by omega)
  rw [HV7.out] at hc7
  have HC7 := Lib.hid hc7
  clear hc7
  go_wp2_with fail
  clear z10
  refine HC7.out.mono ?_
  rintro e w8 ⟨rfl, ho, ht⟩
  clear HC7
  replace HT := Lib.hid (HT.out.trans (ht.mono s7))
  replace L0 := Lib.hid (L0.out.keep (ht.same ap0_7.symm))
  replace L1 := Lib.hid (L1.out.keep (ht.same ap1_7.symm))
  replace L2 := Lib.hid (L2.out.keep (ht.same ap2_7.symm))
  replace L3 := Lib.hid (L3.out.keep (ht.same ap3_7.symm))
  replace L4 := Lib.hid (L4.out.keep (ht.same ap4_7.symm))
  replace L5 := Lib.hid (L5.out.keep (ht.same ap5_7.symm))
  replace L6 := Lib.hid (L6.out.keep (ht.same ap6_7.symm))
  replace L7 := Lib.hid ho
  replace L8 := Lib.hid (L8.out.keep (ht.same ap7_8))
  replace HB0 := Lib.hid ((ht.block w.heap.size fun o f => by have := hF _ _ (s7 _ _ f); omega).trans HB0.out)
  have z11 := cell_of_row _ w.heap.size 11 _ _ _ HB0.out
  have z12 := cell_of_row _ w.heap.size 12 _ _ _ HB0.out
  have z13 := cell_of_row _ w.heap.size 13 _ _ _ HB0.out
  simp only [List.getElem?_toArray, List.getElem?_cons_zero, List.getElem?_cons_succ] at z11 z12 z13
  clear ho ht
  have hg := ownGrads_owns (F := G8) (w := w8) (d := x.2.2.2.2.2.2.2.2.2.2.2).2 ⟨_, _, _, rfl, x8, y8, L8.out⟩
  have hs8 := HT.out.size
  have hza := HA.out.size
  have hc8 := markGrads_o w8 G8 [.slice a8_ n8_ c8_, .int .i64 x.2.2.2.2.2.2.2.2.2.2.2.2.1, .bool x.2.2.2.2.2.2.2.2.2.2.2.2.2] x.2.2.2.2.2.2.2.2.2.2.2 V7 hg (fun b o f => by have := hF _ _ (s8 _ _ f); omega) (by rw [shGrads_bulk]; exact hb8) (by omega) (by rw [ownGrads_ctT]; omega)
  rw [ownGrads_ctT, HV8.out] at hc8
  have HC8 := Lib.hid hc8
  clear hc8 hg
  go_wp2_with fail
  clear z11 z12 z13
  refine HC8.out.mono ?_
  rintro e w9 ⟨rfl, ho, wz, hbz, ht⟩
  clear HC8
  replace L0 := Lib.hid ((L0.out.keep (.of_below hbz fun b o f => by have := hF _ _ (s0 _ _ f); omega)).keep (ht.same ap0_8.symm))
  replace L1 := Lib.hid ((L1.out.keep (.of_below hbz fun b o f => by have := hF _ _ (s1 _ _ f); omega)).keep (ht.same ap1_8.symm))
  replace L2 := Lib.hid ((L2.out.keep (.of_below hbz fun b o f => by have := hF _ _ (s2 _ _ f); omega)).keep (ht.same ap2_8.symm))
  replace L3 := Lib.hid ((L3.out.keep (.of_below hbz fun b o f => by have := hF _ _ (s3 _ _ f); omega)).keep (ht.same ap3_8.symm))
  replace L4 := Lib.hid ((L4.out.keep (.of_below hbz fun b o f => by have := hF _ _ (s4 _ _ f); omega)).keep (ht.same ap4_8.symm))
  replace L5 := Lib.hid ((L5.out.keep (.of_below hbz fun b o f => by have := hF _ _ (s5 _ _ f); omega)).keep (ht.same ap5_8.symm))
  replace L6 := Lib.hid ((L6.out.keep (.of_below hbz fun b o f => by have := hF _ _ (s6 _ _ f); omega)).keep (ht.same ap6_8.symm))
  replace L7 := Lib.hid ((L7.out.keep (.of_below hbz fun b o f => by have := hF _ _ (s7 _ _ f); omega)).keep (ht.same ap7_8.symm))
  obtain ⟨az, nz, cz, ez, -, -, lz⟩ := ownGrads_owns.1 ho
  simp only [List.cons.injEq, Value.slice.injEq, and_true] at ez
  obtain ⟨⟨rfl, rfl, rfl⟩, -⟩ := ez
  replace L8 := Lib.hid lz
  have hsw := touched_swap HT.out hbz (ht.mono s8) (fun b o f => by have := hF _ _ f; omega)
  have HSW := Lib.hid hsw
  clear ho ht hbz hsw lz
  go_wp2_with fail
  go_ret
  have hown := ownStage_owns (F := F) (w := w9) (d := (x.1, Owned.mkL ownIns.mark ownIns.ct x.2.1 k0, Owned.mkL ownOp.mark ownOp.ct x.2.2.1 V0, x.2.2.2.1, x.2.2.2.2.1, Owned.mkL ownSaved.mark ownSaved.ct x.2.2.2.2.2.1 V1, Owned.mkL ownRow.mark ownRow.ct x.2.2.2.2.2.2.1 V2, Owned.mkL Owned.int.mark Owned.int.ct x.2.2.2.2.2.2.2.1 V3, Owned.mkL Owned.int.mark Owned.int.ct x.2.2.2.2.2.2.2.2.1 V4, Owned.mkL Owned.int.mark Owned.int.ct x.2.2.2.2.2.2.2.2.2.1 V5, Owned.mkL Owned.int.mark Owned.int.ct x.2.2.2.2.2.2.2.2.2.2.1 V6, Owned.mkL ownRow.mark ownRow.ct x.2.2.2.2.2.2.2.2.2.2.2.1 V7, x.2.2.2.2.2.2.2.2.2.2.2.2.1, x.2.2.2.2.2.2.2.2.2.2.2.2.2)).2 ⟨_, _, _, _, _, _, _, _, _, _, _, _, _, _, _, _, _, _, _, _, _, _, _, _, _, _, _, G0, G1, G2, G3, G4, G5, G6, G7, G8, rfl, ⟨x0, y0, L0.out⟩, ⟨x1, y1, L1.out⟩, ⟨x2, y2, L2.out⟩, ⟨x3, y3, L3.out⟩, ⟨x4, y4, L4.out⟩, ⟨x5, y5, L5.out⟩, ⟨x6, y6, L6.out⟩, ⟨x7, y7, L7.out⟩, ⟨x8, y8, L8.out⟩, s0, s1, s2, s3, s4, s5, s6, s7, s8, ap0_1, ap0_2, ap0_3, ap0_4, ap0_5, ap0_6, ap0_7, ap0_8, ap1_2, ap1_3, ap1_4, ap1_5, ap1_6, ap1_7, ap1_8, ap2_3, ap2_4, ap2_5, ap2_6, ap2_7, ap2_8, ap3_4, ap3_5, ap3_6, ap3_7, ap3_8, ap4_5, ap4_6, ap4_7, ap4_8, ap5_6, ap5_7, ap5_8, ap6_7, ap6_8, ap7_8⟩
  have hmv : ownStage.markT x k0 = (x.1, Owned.mkL ownIns.mark ownIns.ct x.2.1 k0, Owned.mkL ownOp.mark ownOp.ct x.2.2.1 V0, x.2.2.2.1, x.2.2.2.2.1, Owned.mkL ownSaved.mark ownSaved.ct x.2.2.2.2.2.1 V1, Owned.mkL ownRow.mark ownRow.ct x.2.2.2.2.2.2.1 V2, Owned.mkL Owned.int.mark Owned.int.ct x.2.2.2.2.2.2.2.1 V3, Owned.mkL Owned.int.mark Owned.int.ct x.2.2.2.2.2.2.2.2.1 V4, Owned.mkL Owned.int.mark Owned.int.ct x.2.2.2.2.2.2.2.2.2.1 V5, Owned.mkL Owned.int.mark Owned.int.ct x.2.2.2.2.2.2.2.2.2.2.1 V6, Owned.mkL ownRow.mark ownRow.ct x.2.2.2.2.2.2.2.2.2.2.2.1 V7, x.2.2.2.2.2.2.2.2.2.2.2.2.1, x.2.2.2.2.2.2.2.2.2.2.2.2.2) := by
    simp only [ownStage, Owned.struct, OwnedFields.cons, OwnedFields.last, Owned.int, Owned.bool, Owned.list, ownGrads, ← HV0.out, ← HV1.out, ← HV2.out, ← HV3.out, ← HV4.out, ← HV5.out, ← HV6.out, ← HV7.out]
    try simp
  obtain ⟨wy, hy1, hy2⟩ := HSW.out
  rw [hmv]
  exact ⟨rfl, hown, wy, HA.out.trans (hy1.mono HA.out.size), hy2⟩
set_option maxRecDepth 100000 in
set_option maxHeartbeats 1600000 in
theorem heldStage_o (w : World) (B : Nat) (es : List Value) (x : dStage) (k0 : Int) (h : shStage.reads (Under B) w es (ownStage.markT x k0)) (hB : B ≤ w.heap.size) (hb : smallStage x) (hk0 : 0 ≤ k0) (hc : k0 + (ownStage.ctT x : Nat) ≤ 4611686018427387904) :
    Calls Try.prog 19 #[.agg es.toArray, .int .i64 k0] w fun e w' => e = .returned (.int .i64 (k0 + (ownStage.ctT x : Nat))) ∧ Below w.heap.size w w' := by
  have hmv : ownStage.markT x k0 = (x.1, Owned.mkL ownIns.mark ownIns.ct x.2.1 (k0), Owned.mkL ownOp.mark ownOp.ct x.2.2.1 (k0 + (Shape.sum ownIns.ct x.2.1 : Nat)), x.2.2.2.1, x.2.2.2.2.1, Owned.mkL ownSaved.mark ownSaved.ct x.2.2.2.2.2.1 (k0 + (Shape.sum ownIns.ct x.2.1 : Nat) + (Shape.sum ownOp.ct x.2.2.1 : Nat)), Owned.mkL ownRow.mark ownRow.ct x.2.2.2.2.2.2.1 (k0 + (Shape.sum ownIns.ct x.2.1 : Nat) + (Shape.sum ownOp.ct x.2.2.1 : Nat) + (Shape.sum ownSaved.ct x.2.2.2.2.2.1 : Nat)), Owned.mkL Owned.int.mark Owned.int.ct x.2.2.2.2.2.2.2.1 (k0 + (Shape.sum ownIns.ct x.2.1 : Nat) + (Shape.sum ownOp.ct x.2.2.1 : Nat) + (Shape.sum ownSaved.ct x.2.2.2.2.2.1 : Nat) + (Shape.sum ownRow.ct x.2.2.2.2.2.2.1 : Nat)), Owned.mkL Owned.int.mark Owned.int.ct x.2.2.2.2.2.2.2.2.1 (k0 + (Shape.sum ownIns.ct x.2.1 : Nat) + (Shape.sum ownOp.ct x.2.2.1 : Nat) + (Shape.sum ownSaved.ct x.2.2.2.2.2.1 : Nat) + (Shape.sum ownRow.ct x.2.2.2.2.2.2.1 : Nat) + (Shape.sum Owned.int.ct x.2.2.2.2.2.2.2.1 : Nat)), Owned.mkL Owned.int.mark Owned.int.ct x.2.2.2.2.2.2.2.2.2.1 (k0 + (Shape.sum ownIns.ct x.2.1 : Nat) + (Shape.sum ownOp.ct x.2.2.1 : Nat) + (Shape.sum ownSaved.ct x.2.2.2.2.2.1 : Nat) + (Shape.sum ownRow.ct x.2.2.2.2.2.2.1 : Nat) + (Shape.sum Owned.int.ct x.2.2.2.2.2.2.2.1 : Nat) + (Shape.sum Owned.int.ct x.2.2.2.2.2.2.2.2.1 : Nat)), Owned.mkL Owned.int.mark Owned.int.ct x.2.2.2.2.2.2.2.2.2.2.1 (k0 + (Shape.sum ownIns.ct x.2.1 : Nat) + (Shape.sum ownOp.ct x.2.2.1 : Nat) + (Shape.sum ownSaved.ct x.2.2.2.2.2.1 : Nat) + (Shape.sum ownRow.ct x.2.2.2.2.2.2.1 : Nat) + (Shape.sum Owned.int.ct x.2.2.2.2.2.2.2.1 : Nat) + (Shape.sum Owned.int.ct x.2.2.2.2.2.2.2.2.1 : Nat) + (Shape.sum Owned.int.ct x.2.2.2.2.2.2.2.2.2.1 : Nat)), Owned.mkL ownRow.mark ownRow.ct x.2.2.2.2.2.2.2.2.2.2.2.1 (k0 + (Shape.sum ownIns.ct x.2.1 : Nat) + (Shape.sum ownOp.ct x.2.2.1 : Nat) + (Shape.sum ownSaved.ct x.2.2.2.2.2.1 : Nat) + (Shape.sum ownRow.ct x.2.2.2.2.2.2.1 : Nat) + (Shape.sum Owned.int.ct x.2.2.2.2.2.2.2.1 : Nat) + (Shape.sum Owned.int.ct x.2.2.2.2.2.2.2.2.1 : Nat) + (Shape.sum Owned.int.ct x.2.2.2.2.2.2.2.2.2.1 : Nat) + (Shape.sum Owned.int.ct x.2.2.2.2.2.2.2.2.2.2.1 : Nat)), x.2.2.2.2.2.2.2.2.2.2.2.2.1, x.2.2.2.2.2.2.2.2.2.2.2.2.2) := by
    simp only [ownStage, Owned.struct, OwnedFields.cons, OwnedFields.last, Owned.int, Owned.bool, Owned.list, ownGrads]
    try simp
  rw [hmv] at h
  obtain ⟨a0_, n0_, c0_, a1_, n1_, c1_, a2_, n2_, c2_, a3_, n3_, c3_, a4_, n4_, c4_, a5_, n5_, c5_, a6_, n6_, c6_, a7_, n7_, c7_, a8_, n8_, c8_, rfl, ⟨-, -, l0⟩, ⟨-, -, l1⟩, ⟨-, -, l2⟩, ⟨-, -, l3⟩, ⟨-, -, l4⟩, ⟨-, -, l5⟩, ⟨-, -, l6⟩, ⟨-, -, l7⟩, ⟨x8, y8, l8⟩⟩ := shStage_reads.1 h
  rw [ownStage_ctT] at hc ⊢
  obtain ⟨hb0, hb1, hb2, hb3, hb4, hb5, hb6, hb7, hb8⟩ := hb
  have ha := (Below.refl w.heap.size w).alloc (Nat.le_refl _) (.cells #[.int .i64 x.1, .slice a0_ n0_ c0_, .slice a1_ n1_ c1_, .bool x.2.2.2.1, .bool x.2.2.2.2.1, .slice a2_ n2_ c2_, .slice a3_ n3_ c3_, .slice a4_ n4_ c4_, .slice a5_ n5_ c5_, .slice a6_ n6_ c6_, .slice a7_ n7_ c7_, .slice a8_ n8_ c8_, .int .i64 x.2.2.2.2.2.2.2.2.2.2.2.2.1, .bool x.2.2.2.2.2.2.2.2.2.2.2.2.2] 34 (0, 0))
  have L0 := Lib.hid (l0.below ha hB)
  have L1 := Lib.hid (l1.below ha hB)
  have L2 := Lib.hid (l2.below ha hB)
  have L3 := Lib.hid (l3.below ha hB)
  have L4 := Lib.hid (l4.below ha hB)
  have L5 := Lib.hid (l5.below ha hB)
  have L6 := Lib.hid (l6.below ha hB)
  have L7 := Lib.hid (l7.below ha hB)
  have L8 := Lib.hid (l8.below ha hB)
  have HA := Lib.hid ha
  clear h hmv ha l0 l1 l2 l3 l4 l5 l6 l7 l8
  obtain ⟨V0, hV0⟩ : ∃ V', k0 + (Shape.sum ownIns.ct x.2.1 : Nat) = V' := ⟨_, rfl⟩
  have HV0 := Lib.hid hV0
  have t0 : decide (V0 < 0) = false := decide_eq_false (by omega)
  obtain ⟨V1, hV1⟩ : ∃ V', V0 + (Shape.sum ownOp.ct x.2.2.1 : Nat) = V' := ⟨_, rfl⟩
  have HV1 := Lib.hid hV1
  rw [hV0] at L1
  have t1 : decide (V1 < 0) = false := decide_eq_false (by omega)
  obtain ⟨V2, hV2⟩ : ∃ V', V1 + (Shape.sum ownSaved.ct x.2.2.2.2.2.1 : Nat) = V' := ⟨_, rfl⟩
  have HV2 := Lib.hid hV2
  rw [hV0, hV1] at L2
  have t2 : decide (V2 < 0) = false := decide_eq_false (by omega)
  obtain ⟨V3, hV3⟩ : ∃ V', V2 + (Shape.sum ownRow.ct x.2.2.2.2.2.2.1 : Nat) = V' := ⟨_, rfl⟩
  have HV3 := Lib.hid hV3
  rw [hV0, hV1, hV2] at L3
  have t3 : decide (V3 < 0) = false := decide_eq_false (by omega)
  obtain ⟨V4, hV4⟩ : ∃ V', V3 + (Shape.sum Owned.int.ct x.2.2.2.2.2.2.2.1 : Nat) = V' := ⟨_, rfl⟩
  have HV4 := Lib.hid hV4
  rw [hV0, hV1, hV2, hV3] at L4
  have t4 : decide (V4 < 0) = false := decide_eq_false (by omega)
  obtain ⟨V5, hV5⟩ : ∃ V', V4 + (Shape.sum Owned.int.ct x.2.2.2.2.2.2.2.2.1 : Nat) = V' := ⟨_, rfl⟩
  have HV5 := Lib.hid hV5
  rw [hV0, hV1, hV2, hV3, hV4] at L5
  have t5 : decide (V5 < 0) = false := decide_eq_false (by omega)
  obtain ⟨V6, hV6⟩ : ∃ V', V5 + (Shape.sum Owned.int.ct x.2.2.2.2.2.2.2.2.2.1 : Nat) = V' := ⟨_, rfl⟩
  have HV6 := Lib.hid hV6
  rw [hV0, hV1, hV2, hV3, hV4, hV5] at L6
  have t6 : decide (V6 < 0) = false := decide_eq_false (by omega)
  obtain ⟨V7, hV7⟩ : ∃ V', V6 + (Shape.sum Owned.int.ct x.2.2.2.2.2.2.2.2.2.2.1 : Nat) = V' := ⟨_, rfl⟩
  have HV7 := Lib.hid hV7
  rw [hV0, hV1, hV2, hV3, hV4, hV5, hV6] at L7
  have t7 : decide (V7 < 0) = false := decide_eq_false (by omega)
  obtain ⟨V8, hV8⟩ : ∃ V', V7 + (Shape.sum ownRow.ct x.2.2.2.2.2.2.2.2.2.2.2.1 : Nat) = V' := ⟨_, rfl⟩
  have HV8 := Lib.hid hV8
  rw [hV0, hV1, hV2, hV3, hV4, hV5, hV6, hV7] at L8
  have t8 : decide (V8 < 0) = false := decide_eq_false (by omega)
  have hV : k0 + ((Shape.sum ownIns.ct x.2.1 + Shape.sum ownOp.ct x.2.2.1 + Shape.sum ownSaved.ct x.2.2.2.2.2.1 + Shape.sum ownRow.ct x.2.2.2.2.2.2.1 + Shape.sum Owned.int.ct x.2.2.2.2.2.2.2.1 + Shape.sum Owned.int.ct x.2.2.2.2.2.2.2.2.1 + Shape.sum Owned.int.ct x.2.2.2.2.2.2.2.2.2.1 + Shape.sum Owned.int.ct x.2.2.2.2.2.2.2.2.2.2.1 + Shape.sum ownRow.ct x.2.2.2.2.2.2.2.2.2.2.2.1 : Nat) : Int) = V8 := by omega
  rw [hV]
  go_enter Try.func19, Try.ntmps19
  have hc0 := heldInsS_o _ _ a0_ n0_ c0_ x.2.1 k0 L0.out hb0 (by omega) (by omega)
  rw [HV0.out] at hc0
  have HC0 := Lib.hid hc0
  clear hc0
  go_wp2_with fail
  refine HC0.out.mono ?_
  rintro e w1 ⟨rfl, rfl⟩
  have hc1 := heldOpS_o _ _ a1_ n1_ c1_ x.2.2.1 V0 L1.out hb1 (by omega) (by omega)
  rw [HV1.out] at hc1
  have HC1 := Lib.hid hc1
  clear hc1
  go_wp2_with fail
  refine HC1.out.mono ?_
  rintro e w2 ⟨rfl, rfl⟩
  have hc2 := heldSavedS_o _ _ a2_ n2_ c2_ x.2.2.2.2.2.1 V1 L2.out hb2 (by omega) (by omega)
  rw [HV2.out] at hc2
  have HC2 := Lib.hid hc2
  clear hc2
  go_wp2_with fail
  refine HC2.out.mono ?_
  rintro e w3 ⟨rfl, rfl⟩
  have hc3 := heldRowS_o _ _ a3_ n3_ c3_ x.2.2.2.2.2.2.1 V2 L3.out hb3 (by omega) (by omega)
  rw [HV3.out] at hc3
  have HC3 := Lib.hid hc3
  clear hc3
  go_wp2_with fail
  refine HC3.out.mono ?_
  rintro e w4 ⟨rfl, rfl⟩
  have hc4 := heldIntS_o _ _ a4_ n4_ c4_ x.2.2.2.2.2.2.2.1 V3 L4.out hb4 (by omega) (by omega)
  rw [HV4.out] at hc4
  have HC4 := Lib.hid hc4
  clear hc4
  go_wp2_with fail
  refine HC4.out.mono ?_
  rintro e w5 ⟨rfl, rfl⟩
  have hc5 := heldIntS_o _ _ a5_ n5_ c5_ x.2.2.2.2.2.2.2.2.1 V4 L5.out hb5 (by omega) (by omega)
  rw [HV5.out] at hc5
  have HC5 := Lib.hid hc5
  clear hc5
  go_wp2_with fail
  refine HC5.out.mono ?_
  rintro e w6 ⟨rfl, rfl⟩
  have hc6 := heldIntS_o _ _ a6_ n6_ c6_ x.2.2.2.2.2.2.2.2.2.1 V5 L6.out hb6 (by omega) (by omega)
  rw [HV6.out] at hc6
  have HC6 := Lib.hid hc6
  clear hc6
  go_wp2_with fail
  refine HC6.out.mono ?_
  rintro e w7 ⟨rfl, rfl⟩
  have hc7 := heldIntS_o _ _ a7_ n7_ c7_ x.2.2.2.2.2.2.2.2.2.2.1 V6 L7.out hb7 (by omega) (by omega)
  rw [HV7.out] at hc7
  have HC7 := Lib.hid hc7
  clear hc7
  go_wp2_with fail
  refine HC7.out.mono ?_
  rintro e w8 ⟨rfl, rfl⟩
  have hg : shGrads.reads (Under B) _ [.slice a8_ n8_ c8_, .int .i64 x.2.2.2.2.2.2.2.2.2.2.2.2.1, .bool x.2.2.2.2.2.2.2.2.2.2.2.2.2] (ownGrads.markT x.2.2.2.2.2.2.2.2.2.2.2 V7) := shGrads_reads.2 ⟨_, _, _, rfl, x8, y8, L8.out⟩
  have hc8 := heldGrads_o _ _ [.slice a8_ n8_ c8_, .int .i64 x.2.2.2.2.2.2.2.2.2.2.2.2.1, .bool x.2.2.2.2.2.2.2.2.2.2.2.2.2] x.2.2.2.2.2.2.2.2.2.2.2 V7 hg (Nat.le_trans hB HA.out.size) (by rw [shGrads_bulk]; exact hb8) (by omega) (by rw [ownGrads_ctT]; omega)
  rw [ownGrads_ctT, HV8.out] at hc8
  have HC8 := Lib.hid hc8
  clear hc8 hg
  go_wp2_with fail
  refine HC8.out.mono ?_
  rintro e w9 ⟨rfl, hbz⟩
  have HBZ := Lib.hid (HA.out.trans (hbz.mono HA.out.size))
  clear hbz
  go_wp2_with fail
  go_ret
  exact ⟨rfl, HBZ.out⟩
end Go.Proofs.Ytpnifgpmleaohaa

end

/-! YtpnifgpmleaohaaFewS -/
section

namespace Go.Proofs.Ytpnifgpmleaohaa
open Go.RowKit
set_option linter.unusedVariables false
set_option linter.unusedSimpArgs false

theorem ownSaved_few (x : dSaved) : ownSaved.ctT x ≤ 16 * shSaved.bulk x := by
  rw [ownSaved_ctT, shSaved_bulk]
  have e0 := few_RowS x.2
  omega
theorem ownSaved_ct (x : dSaved) : ownSaved.ct x = ownSaved.ctT x + 1 := by
  rw [ownSaved_ctT]
  simp only [ownSaved, Owned.struct, OwnedFields.cons, OwnedFields.last, Owned.int, Owned.bool, Owned.list]
  try omega
theorem few_SavedS (xs : List dSaved) : Shape.sum ownSaved.ct xs ≤ 16 * (Shape.list shSaved).bulk xs := by
  refine sum_few ownSaved.ct shSaved.bulk (fun x => ?_) xs
  rw [ownSaved_ct]
  have := ownSaved_few x
  omega
theorem ownStage_few (x : dStage) : ownStage.ctT x ≤ 16 * shStage.bulk x := by
  rw [ownStage_ctT, shStage_bulk]
  have e0 := few_InsS x.2.1
  have e1 := few_OpS x.2.2.1
  have e2 := few_SavedS x.2.2.2.2.2.1
  have e3 := few_RowS x.2.2.2.2.2.2.1
  have e4 := few_IntS x.2.2.2.2.2.2.2.1
  have e5 := few_IntS x.2.2.2.2.2.2.2.2.1
  have e6 := few_IntS x.2.2.2.2.2.2.2.2.2.1
  have e7 := few_IntS x.2.2.2.2.2.2.2.2.2.2.1
  have e8 := few_RowS x.2.2.2.2.2.2.2.2.2.2.2.1
  omega
theorem ownStage_ctsmall {x : dStage} (h : smallStage x) : ownStage.ctT x ≤ 167772160 := by
  rw [ownStage_ctT]
  obtain ⟨b0, b1, b2, b3, b4, b5, b6, b7, b8⟩ := h
  have e0 := few_InsS x.2.1
  have e1 := few_OpS x.2.2.1
  have e2 := few_SavedS x.2.2.2.2.2.1
  have e3 := few_RowS x.2.2.2.2.2.2.1
  have e4 := few_IntS x.2.2.2.2.2.2.2.1
  have e5 := few_IntS x.2.2.2.2.2.2.2.2.1
  have e6 := few_IntS x.2.2.2.2.2.2.2.2.2.1
  have e7 := few_IntS x.2.2.2.2.2.2.2.2.2.2.1
  have e8 := few_RowS x.2.2.2.2.2.2.2.2.2.2.2.1

  have l2 := b2.1
  omega
end Go.Proofs.Ytpnifgpmleaohaa

end
