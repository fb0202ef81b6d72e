/-
  What goes into each operation, and what comes back: the model's l7Inputs.
-/
import Derived.Test.YtpnifgpmleaohaaGreatDoorJoin15
import Derived.Test.YtpnifgpmleaohaaGreatDoorJoin12
import Derived.Deep.QuietTactic
import Derived.BigQuiet
namespace Go.Proofs.YtpnifgpmleaohaaGreatDoor
open Go.RowKit Go.Sort
set_option linter.unusedVariables false

/-- A list of one row. -/
theorem ListL.one {base : Nat} {w : World} {u : Value} {x : List Int} (h : Row base w u x) (hb : base ≤ w.heap.size) :
    ListL ownRow 56 base (w.alloc (.cells #[u] 56 (0, 0))).heap.size (w.alloc (.cells #[u] 56 (0, 0))) (.slice (some ⟨w.heap.size, 0, none⟩) 1 1) [x] := by
  have hk := Row.below h ((Below.refl w.heap.size w).alloc (Nat.le_refl _) (.cells #[u] 56 (0, 0)))
  have ho := Row.ownRow h
  refine ⟨Nat.le_refl _, [u], fun j => if j = 0 then FromB base w.heap.size else fun _ _ => False, World.ownsRow_lit (base := base) (e := 56) (size := 1) w #[u] 1 hb (by unfold maxLen; omega) rfl, fun g hg => ?_, fun j y hy => ?_, fun j b o f => ?_, fun j j' hne b o f f' => ?_⟩
  · have e : w.heap.size = g := by simpa [Value.ownBlock] using hg
    rw [size_one']
    omega
  · cases j with
    | zero =>
      simp at hy
      subst hy
      refine ⟨[u], fun i v hv => by simpa using hv, ?_⟩
      simp only [if_true]
      exact ownRow.owns_keep ho (.of_below ((Below.refl w.heap.size w).alloc (Nat.le_refl _) _) fun b o f => f.2)
    | succ j => simp at hy
  · by_cases hj : j = 0
    · simp only [if_pos hj] at f
      refine ⟨f.1, by rw [size_one']; have := f.2; omega, fun e => ?_⟩
      have e' : w.heap.size = b := by simpa [Value.ownBlock] using e
      have := f.2
      omega
    · simp only [if_neg hj] at f
  · by_cases hj : j = 0
    · by_cases hj' : j' = 0
      · omega
      · simp only [if_neg hj'] at f'
    · simp only [if_neg hj] at f
theorem ownRow_reads {F : Foot} {w : World} {es : List Value} {x : List Int} {B : Nat} (h : ownRow.owns F w es x) (hF : ∀ b o, F b o → b < B) (hb : x.length ≤ 1048576) : ∃ a n c, es = [.slice a n c] ∧ IntsIn B w a n x := by
  obtain ⟨a, n, c, rfl, -, -, hl⟩ := h
  refine ⟨a, n, c, rfl, ?_⟩
  have := (hl.listAt (I := Under B) (fun b o f => hF b o f) (by decide)).ints (by have := hl.1; omega)
  exact this
/-- One row of a list that a call has made: its cell, its numbers. -/
theorem ListL.at {T : TypeId} {lo hi : Nat} {w : World} {a : Option Addr} {n c : Nat} {xs : List dRow} (h : ListL ownRow T lo hi w (.slice a n c) xs) (j : Nat) (x : dRow) (hx : xs[j]? = some x) (hb : x.length ≤ 1048576) :
    ∃ g ax nx cx, a = some ⟨g, 0, none⟩ ∧ j < n ∧ lo ≤ g ∧ g < hi ∧ w.cell? ⟨g, j, none⟩ = some (.slice ax nx cx) ∧ IntsIn hi w ax nx x := by
  obtain ⟨us, G, h1, h2, h3, h4, h5⟩ := h.all
  have hj := (List.getElem?_eq_some_iff.1 hx).1
  obtain ⟨es, q1, q2⟩ := h3 j x hx
  obtain ⟨ax, nx, cx, rfl, hi'⟩ := ownRow_reads q2 (fun b o f => (h4 j b o f).2.1) hb
  have h1' := h1
  rcases h1.2 with ⟨e, hn⟩ | ⟨g, cap, cur, e, e1, e2, e3, e4, -⟩
  · omega
  · cases e
    refine ⟨g, ax, nx, cx, rfl, hj, e1, h2 g rfl, ?_, hi'⟩
    rw [World.ownsRow.cellAt h1' j (by show j < xs.length * 1; omega)]
    have := q1 0 _ rfl
    simpa [ownRow_size] using this
set_option maxRecDepth 100000 in
set_option maxHeartbeats 6400000 in
theorem specL7Inputs_any (w : World) (a : Option Addr) (n c : Nat) (m : List dOp) (h : ListAt shOp (Under w.heap.size) w a n m) (hb : (Shape.list shOp).bulk m ≤ 1048576) (ax : Option Addr) (nx cx : Nat) (xs : List Int) (hx : IntsIn w.heap.size w ax nx xs) (h1 : 1 ≤ nx) (h6 : nx ≤ 6) :
    Calls Tryz.prog 107 #[.slice a n c, .slice ax nx cx] w fun e w' => ∃ v, e = .returned (.tuple #[v, .bool (inKB m xs n)]) ∧ ListL ownRow 56 w.heap.size w'.heap.size w' v (listK (inK m xs) (n + 1)) ∧ Below w.heap.size w w' := by
  obtain ⟨i0, hi, hz0, hz1, hz2⟩ := info_parts Tryz.infoI64
  obtain ⟨j0, hj, hy0, hy1, hy2⟩ := info_parts infoRow1
  have hlen := h.1
  rw [bulk_list _ h] at hb
  have hn1 : n ≤ 1048576 := by omega
  obtain ⟨b, p, rfl, hbB, -⟩ := hx.cells 0 (by omega)
  have HL := Lib.hid h
  have HB := Lib.hid hb
  have HX := Lib.hid hx
  have hlx := hx.len
  have hsm : ∀ k, (inK m xs k).length ≤ 6 := fun k => by
    cases k with
    | zero => show xs.length ≤ 6; omega
    | succ k => exact fwOp_length _ _
  have HSM := Lib.hid hsm
  clear h hb hx hsm
  go_enter Tryz.func107, Tryz.ntmps107
  go_wp2_with (at_builtin; refine wpList_append_own _ rfl _ _ 28 rfl w.heap.size 3 i0 (.int .i64 0) 1 8 Tryz.underlying28 hi hz0 hz1 hz2 rfl (by decide) _ _ _ rfl (owns_empty w) ⟨b, p, none⟩ nx cx (icells xs) rfl (by rw [icells_length, hlx, Nat.mul_one]) (ints_news (HX.out.below ((Below.refl w.heap.size w).alloc (Nat.le_refl _) _) (by omega))) (icells_one _) (by unfold maxLen; omega) (by omega) (by simp) ?_; intro v2 w2 hown hgrow _; have hr := row_first hown; have hb2 := ((Below.refl w.heap.size w).alloc (Nat.le_refl _) (.cells #[] 3 (0, 0))).grown hgrow (by simp) (fun k e => by cases e; exact Nat.le_refl _); clear hown hgrow; obtain ⟨a2, c2, rfl, -⟩ := hr.form)
  have hone := ListL.one hr hb2.size
  rw [hlx] at hone
  have hbo : Below w.heap.size w (w2.alloc (.cells #[.slice a2 nx c2] 56 (0, 0))) := hb2.alloc hb2.size _
  have HONE := Lib.hid hone
  have HBO := Lib.hid hbo
  generalize hw3 : w2.alloc (.cells #[.slice a2 nx c2] 56 (0, 0)) = w3 at HONE HBO ⊢
  have hs3 : w2.heap.size < w3.heap.size := by rw [← hw3]; simp
  clear hone hbo hr hw3
  go_loopw [6, 7, 8] (fun v o i wr => ∃ (k : Nat) (q : Bool), k ≤ n ∧ i = .int .i64 k ∧ o = .bool q ∧ Hid (q = inKB m xs k) ∧ ListL ownRow 56 w.heap.size wr.heap.size wr v (listK (inK m xs) (k + 1)) ∧ Below w.heap.size w wr) (fun _ _ i _ => n - (intOf i).toNat)
  case atStart => exact ⟨0, false, Nat.zero_le _, rfl, rfl, Lib.hid rfl, HONE.out, HBO.out⟩
  case round =>
    obtain ⟨k, q, hk, rfl, rfl, ho, hli, hbw⟩ := hrel
    obtain ⟨av, cv, rfl, hcv, -⟩ := hli.form
    have hkl := listK_length (inK m xs) (k + 1)
    rw [hkl] at hli hcv ⊢
    have HKL := Lib.hid hkl
    clear hkl
    have hsz := hbw.size
    have HLI := Lib.hid hli
    have HBW := Lib.hid hbw
    by_cases hlt : k < n
    · obtain ⟨x, hx⟩ : ∃ x, m[k]? = some x := ⟨_, List.getElem?_eq_getElem (by rw [hlen]; exact hlt)⟩
      obtain ⟨b1, o1, es, rfl, hbB1, hr, hs⟩ := HL.out.2 k x hx
      have hrr := rangeAt_kept hr (show b1 < w.heap.size from hbB1) (Kept.of_below (I := Under w.heap.size) hbw fun b hb => hb)
      have hdr : Below w.heap.size w wr.drew := hbw.trans ⟨rfl, rfl, rfl, Nat.le_refl _, fun _ _ => rfl⟩
      have hsw := shOp.below hs hdr (Nat.le_refl _)
      have hbx' : shOp.bulk x ≤ 1048576 := by have h1 := bulk_mem shOp.bulk m k x hx; have h2 := HB.out; omega
      rw [shOp_bulk, bulk_ints] at hbx'
      obtain ⟨ae, ne, ce, rfl, ge, le, me⟩ := shOp_reads.1 hsw
      obtain ⟨g, ay, ny, cy, rfl, hg1, hg2, hg3, cg, iy⟩ := hli.at k (inK m xs k) (listK_get _ _ _ (by omega)) (by have := HSM.out k; omega)
      have hC := specOpForward_any wr.drew x.1 x.2.1 x.2.2.1 ae ne ce x.2.2.2 ay ny cy (inK m xs k) ((me.ints (by rw [← me.1]; exact hbx')).le hdr.size) ge le ((iy.below (show Below wr.heap.size wr wr.drew from (Below.refl _ _).drew) (Nat.le_refl _)))
      have hfk : inK m xs (k + 1) = fwN x.1 x.2.1 x.2.2.1 x.2.2.2 (inK m xs k) := by
        show fwOp (opAt m k) (inK m xs k) = _
        rw [opAt_get hx]
        rfl
      have hgk : inKB m xs (k + 1) = (inKB m xs k || fwB x.1 x.2.1 x.2.2.1 x.2.2.2 (inK m xs k)) := by
        show (inKB m xs k || fwOpB (opAt m k) (inK m xs k)) = _
        rw [opAt_get hx]
        rfl
      rw [← hfk] at hC
      obtain ⟨fl, hfl⟩ : ∃ q, fwB x.1 x.2.1 x.2.2.1 x.2.2.2 (inK m xs k) = q := ⟨_, rfl⟩
      rw [hfl] at hC hgk
      have HC := Lib.hid hC
      have HGK := Lib.hid hgk
      rw [shOp_size] at hrr
      have d0 := hrr 0 _ rfl
      have d1 := hrr 1 _ rfl
      have d2 := hrr 2 _ rfl
      have d3 := hrr 3 _ rfl
      simp only [Nat.add_zero] at d0
      clear hr hrr hs hsw me hx hbx' hfk hgk hfl hC hbB1 hdr hli hbw iy
      have hkk : (k : Int) < (k : Int) + 1 := by omega
      go_upto_region 6 with fail
      go_cut [9, 10] (fun t u wx => u = .bool fl ∧ Row wr.heap.size wx t (inK m xs (k + 1)) ∧ Below wr.heap.size wr wx)
      case first =>
        go_region_law (first
          | (go_simp; go_at_call 172; (with_reducible refine HC.out.mono ?_); rintro e wt ⟨v', rfl, hr, hb⟩; have HR := Lib.hid hr; have HBT := Lib.hid hb; clear hr hb))
        all_goals
          go_wp2_with fail
          go_meet
          case rel => exact ⟨rfl, HR.out, ((Below.refl wr.heap.size wr).drew).trans HBT.out⟩
      case rest =>
        obtain ⟨rfl, hr, hb⟩ := hcut
        obtain ⟨w4, rfl⟩ : ∃ W, W = wc := ⟨_, rfl⟩
        obtain ⟨u2, hu2⟩ : ∃ u, u = inK m xs (k + 1) := ⟨_, rfl⟩
        rw [← hu2] at hr
        obtain ⟨a2, c2, rfl, -⟩ := hr.form
        have hl2 := (HLI.out.below hb (Nat.le_refl _))
        obtain ⟨us, G, h1, h2, h3, h4, h5⟩ := hl2.all
        obtain ⟨n2, hn2⟩ : ∃ q, u2.length = q := ⟨_, rfl⟩
        rw [hn2] at hr ⊢
        have hP : Hid (∀ (w5 : World) (g' cap : Nat), w5.ownsRow w.heap.size 56 1 (.slice (some ⟨g', 0, none⟩) (k + 1 + 1) cap) (k + 1 + 1) (us ++ [.slice a2 n2 c2]) → (w4.alloc (.cells #[.slice a2 n2 c2] 56 (0, 0))).grownBy w5 (Value.slice (some ⟨g, 0, none⟩) (k + 1) cv).ownBlock →
            ((Value.slice (some ⟨g, 0, none⟩) (k + 1) cv).ownBlock = some g' ∨ g' = (w4.alloc (.cells #[.slice a2 n2 c2] 56 (0, 0))).heap.size) → ListL ownRow 56 w.heap.size w5.heap.size w5 (.slice (some ⟨g', 0, none⟩) (k + 1 + 1) cap) (listK (inK m xs) (k + 1 + 1)) ∧ Below w.heap.size w4 w5) := Lib.hid fun w5 g' cap ho hgr hat => by
          have hp := ListL.put (S := ownRow) (T := 56) (lo := w.heap.size) (hi := wr.heap.size) (w := w4) (w' := w5) (v := .slice (some ⟨g, 0, none⟩) (k + 1) cv) (v' := .slice (some ⟨g', 0, none⟩) (k + 1 + 1) cap) (xs := listK (inK m xs) (k + 1)) (o := (.cells #[.slice a2 n2 c2] 56 (0, 0))) (x := u2) (F := FromB wr.heap.size w4.heap.size)
            hsz h1 h2 hb.size h3 h4 h5 (Row.ownRow hr) (fun b o f => f) rfl (by rw [HKL.out]; exact ho) hgr (by
              rcases hat with e | e
              · exact .inl e.symm
              · exact .inr (congrArg some e))
          rw [hu2] at hp
          exact hp
        rw [HKL.out] at h1
        have HRD : Hid ((w4.alloc (.cells #[.slice a2 n2 c2] 56 (0, 0))).ownsRow w.heap.size 56 1 (.slice (some ⟨g, 0, none⟩) (k + 1) cv) (k + 1) us) := Lib.hid (World.ownsRow.alloc h1 _)
        have HND : Hid (∀ j u, ([Value.slice a2 n2 c2] : List Value)[j]? = some u → (w4.alloc (.cells #[.slice a2 n2 c2] 56 (0, 0))).cell? ((⟨w4.heap.size, 0, none⟩ : Addr).add j) = some u) := Lib.hid (World.news_of_block (heap_alloc_new w4 (.cells #[.slice a2 n2 c2] 56 (0, 0))))
        have hs4 := hb.size
        have HBS : Hid (w.heap.size ≤ (w4.alloc (.cells #[.slice a2 n2 c2] 56 (0, 0))).heap.size) := Lib.hid (by rw [size_one']; omega)
        have HB4 := Lib.hid (HBW.out.trans (hb.mono hsz))
        clear d0 d1 d2 d3 cg h1 h2 h3 h4 h5 hl2 hb hr HLI HC
        cases q
        all_goals
          go_wp2_with (at_builtin; refine wpList_append_lies _ rfl _ _ 27 rfl w.heap.size 56 j0 (.agg #[.slice none 0 0]) 1 24 Tryz.underlying27 hj hy0 hy1 hy2 rfl (by decide) _ _ _ rfl HRD.out ⟨w4.heap.size, 0, none⟩ 1 1 [.slice a2 n2 c2] rfl rfl HND.out (slices_one _ _ _) (by omega) (by unfold maxLen; omega) (by omega) HBS.out _ rfl ?_; intro g' cap w5 hown5 hgrow5 hat5 _; obtain ⟨hli5, hb5⟩ := hP.out w5 g' cap hown5 hgrow5 hat5; have HLI5 := Lib.hid hli5; have HB5 := Lib.hid (HB4.out.trans hb5); clear hown5 hgrow5 hat5 hli5 hb5)
          go_roundw
          case rel => exact ⟨k + 1, _, by omega, by go_num, rfl, Lib.hid (by rw [HGK.out, ← ho.out] <;> rfl), HLI5.out, HB5.out⟩
          case measure => simp [intOf]; omega
    · obtain rfl : k = n := by omega
      clear hli hbw
      go_wp2_with fail
      go_ret2
      exact ⟨_, by rw [← ho.out] <;> rfl, HLI.out, HBW.out⟩
end Go.Proofs.YtpnifgpmleaohaaGreatDoor
