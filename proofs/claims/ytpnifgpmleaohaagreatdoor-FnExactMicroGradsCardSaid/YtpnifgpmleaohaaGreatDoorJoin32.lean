/-
  The model's sums of gradients.
-/
import Derived.Test.YtpnifgpmleaohaaGreatDoorJoin15
import Derived.Test.YtpnifgpmleaohaaGreatDoorJoin7
import Derived.Deep.QuietTactic
import Derived.BigQuiet
namespace Go.Proofs.YtpnifgpmleaohaaGreatDoor
open Go.RowKit Go.Sort
set_option linter.unusedVariables false

set_option maxRecDepth 100000 in
set_option maxHeartbeats 1600000 in
theorem specL7Add_any (w : World) (a1 : Option Addr) (n1 c1 : Nat) (xs : List Int) (a2 : Option Addr) (n2 c2 : Nat) (ys : List Int) (h1 : IntsIn w.heap.size w a1 n1 xs) (h2 : IntsIn w.heap.size w a2 n2 ys) :
    Calls Tryz.prog 180 #[.slice a1 n1 c1, .slice a2 n2 c2] w (RowB w (addV xs ys) (addVB xs ys)) := by
  obtain ⟨i0, hi, hz0, hz1, hz2⟩ := info_parts Tryz.infoI64
  have hr1 := h1.room
  have hr2 := h2.room
  have e1 := h1.len
  have e2 := h2.len
  have HX := Lib.hid h1
  have HY := Lib.hid h2
  obtain ⟨N, hN⟩ : ∃ N, min n1 n2 = N := ⟨_, rfl⟩
  have hv : addV xs ys = rowK addN xs ys N := by unfold addV; rw [e1, e2, hN]
  have hvb : addVB xs ys = flagK addB xs ys N := by unfold addVB; rw [e1, e2, hN]
  rw [hv, hvb]
  have hN1 : N ≤ n1 := by omega
  have hN2 : N ≤ n2 := by omega
  have hN3 : ∀ k, k < N ↔ (k < n1 ∧ k < n2) := fun k => by omega
  have HN3 := Lib.hid hN3
  clear h1 h2 hv hvb e1 e2 hN3 hN
  go_enter Tryz.func180, Tryz.ntmps180
  go_wp2_with fail
  go_loopw [6, 7, 8] (fun m o i wr => ∃ k : Nat, k ≤ N ∧ i = .int .i64 k ∧ o = .bool (flagK addB xs ys k) ∧ Row w.heap.size wr m (rowK addN xs ys k) ∧ Below w.heap.size w wr) (fun _ _ i _ => N - (intOf i).toNat)
  case atStart => exact ⟨0, Nat.zero_le _, rfl, rfl, Row.empty w _ rfl, (Below.refl _ _).alloc (Nat.le_refl _) _⟩
  case round =>
    obtain ⟨k, hk, rfl, rfl, hrow, hb⟩ := hrel
    have hl := rowK_length addN xs ys k
    have HR := Lib.hid hrow
    have HB := Lib.hid hb
    clear hrow hb
    by_cases hlt : k < N
    · obtain ⟨hk1, hk2⟩ := (HN3.out k).1 hlt
      obtain ⟨b, o, rfl, hbB, hcell0⟩ := HX.out.cells k hk1
      obtain ⟨b', o', rfl, hbB', hcell0'⟩ := HY.out.cells k hk2
      obtain ⟨X, hX⟩ : ∃ X, X = xs.getD k 0 := ⟨_, rfl⟩
      obtain ⟨Y, hY⟩ : ∃ Y, Y = ys.getD k 0 := ⟨_, rfl⟩
      rw [← hX] at hcell0
      rw [← hY] at hcell0'
      have hcell := (HB.out.cell (p := ⟨b, o + k, none⟩) hbB).trans hcell0
      have hcell' := (HB.out.cell (p := ⟨b', o' + k, none⟩) hbB').trans hcell0'
      obtain ⟨fl, hfl⟩ : ∃ fl, flagK addB xs ys k = fl := ⟨_, rfl⟩
      obtain ⟨rn, hrn⟩ : ∃ rn, addN X Y = rn := ⟨_, rfl⟩
      obtain ⟨go, hgo⟩ : ∃ go, addB X Y = go := ⟨_, rfl⟩
      have hT := fun w => specFixAdd_any X Y w
      rw [hgo, hrn] at hT
      have HT := Lib.hid hT
      have e1 : flagK addB xs ys (k + 1) = (fl || go) := by rw [flagK, hfl, ← hX, ← hY, hgo]
      have e2 : rowK addN xs ys (k + 1) = rowK addN xs ys k ++ [rn] := by rw [rowK, ← hX, ← hY, hrn]
      have E1 := Lib.hid e1
      have E2 := Lib.hid e2
      rw [hfl]
      clear hX hY hcell0 hcell0' hfl hgo hrn hT e1 e2
      go_wp2_with fail
      go_quiet ((go_at_call 124; refine Calls.quiet_of_same ((HT.out _).mono fun e w' ⟨he, hw⟩ => ⟨he, hw.symm⟩)))
      have hbq : Below w.heap.size w (wr.drewN nq) := drewN_below HB.out nq
      have hrq := HR.out.drewN nq
      generalize wr.drewN nq = wq at hbq hrq ⊢
      have hown : wq.ownsRow w.heap.size 3 1 _ _ (icells _) := hrq
      have hsz := hbq.size
      have HRQ := Lib.hid hrq
      have HBQ := Lib.hid hbq
      clear hrq hbq
      cases fl
      · go_wp2_with (at_builtin; refine wpList_append_own _ rfl _ _ 28 rfl w.heap.size 3 i0 (.int .i64 0) 1 8 Tryz.underlying28 hi hz0 hz1 hz2 rfl (by decide) _ _ _ rfl (hown.alloc _) ⟨wq.heap.size, 0, none⟩ 1 1 (icells [rn]) rfl rfl (cell_num_put _ _ _) (icells_one _) (by unfold maxLen; omega) (by omega) (by simp; omega) ?_; intro v' w2 hown' hgrow _)
        have hput := Row.put HRQ.out hsz _ hown' hgrow
        clear hown' hgrow hown
        go_wp2_with fail
        go_roundw
        case rel => exact ⟨k + 1, by omega, by go_num, by rw [E1.out]; rfl, by rw [E2.out]; exact hput.1, HBQ.out.trans hput.2⟩
        case measure => simp [intOf]; omega
      · go_wp2_with (at_builtin; refine wpList_append_own _ rfl _ _ 28 rfl w.heap.size 3 i0 (.int .i64 0) 1 8 Tryz.underlying28 hi hz0 hz1 hz2 rfl (by decide) _ _ _ rfl (hown.alloc _) ⟨wq.heap.size, 0, none⟩ 1 1 (icells [rn]) rfl rfl (cell_num_put _ _ _) (icells_one _) (by unfold maxLen; omega) (by omega) (by simp; omega) ?_; intro v' w2 hown' hgrow _)
        have hput := Row.put HRQ.out hsz _ hown' hgrow
        clear hown' hgrow hown
        go_wp2_with fail
        go_roundw
        case rel => exact ⟨k + 1, by omega, by go_num, by rw [E1.out]; rfl, by rw [E2.out]; exact hput.1, HBQ.out.trans hput.2⟩
        case measure => simp [intOf]; omega
    · obtain rfl : k = N := by omega
      have hno : ¬ (k < n1 ∧ k < n2) := fun h => hlt ((HN3.out k).2 h)
      by_cases hk1 : k < n1
      · have hk2 : ¬ k < n2 := fun h => hno ⟨hk1, h⟩
        clear hno
        go_wp2_with fail
        go_ret2
        exact ⟨_, rfl, HR.out, HB.out⟩
      · clear hno
        go_wp2_with fail
        go_ret2
        exact ⟨_, rfl, HR.out, HB.out⟩
/-- Four boxes that a call lays ahead. -/
structure Four (w wr : World) (A B Z O : Array Value) (TA TB T : TypeId) : Prop where
  below : Below w.heap.size w wr
  size : w.heap.size + 4 ≤ wr.heap.size
  a : wr.heap[w.heap.size]? = some (.cells A TA (0, 0))
  b : wr.heap[w.heap.size + 1]? = some (.cells B TB (0, 0))
  z : wr.heap[w.heap.size + 1 + 1]? = some (.cells Z T (0, 0))
  o : wr.heap[w.heap.size + 1 + 1 + 1]? = some (.cells O T (0, 0))
theorem Four.start (w : World) (A B Z O : Array Value) (TA TB T : TypeId) : Four w ((((w.alloc (.cells A TA (0, 0))).alloc (.cells B TB (0, 0))).alloc (.cells Z T (0, 0))).alloc (.cells O T (0, 0))) A B Z O TA TB T where
  below := ((((Below.refl _ _).alloc (Nat.le_refl _) _).alloc (by simp) _).alloc (by simp; omega) _).alloc (by simp; omega) _
  size := by simp
  a := by
    rw [Below.heap_alloc _ _ _ (by simp; try omega), Below.heap_alloc _ _ _ (by simp; try omega), Below.heap_alloc _ _ _ (by simp)]
    exact heap_alloc_new w _
  b := by
    rw [Below.heap_alloc _ _ _ (by simp; try omega), Below.heap_alloc _ _ _ (by simp)]
    have := heap_alloc_new (w.alloc (.cells A TA (0, 0))) (.cells B TB (0, 0))
    simpa using this
  z := by
    rw [Below.heap_alloc _ _ _ (by simp)]
    have := heap_alloc_new ((w.alloc (.cells A TA (0, 0))).alloc (.cells B TB (0, 0))) (.cells Z T (0, 0))
    simpa using this
  o := by
    have := heap_alloc_new (((w.alloc (.cells A TA (0, 0))).alloc (.cells B TB (0, 0))).alloc (.cells Z T (0, 0))) (.cells O T (0, 0))
    simpa using this
theorem Four.far {w w1 w4 : World} {A B Z O : Array Value} {TA TB T : TypeId} (h : Four w w1 A B Z O TA TB T) (hb : Below (w.heap.size + 4) w1 w4) : Four w w4 A B Z O TA TB T :=
  ⟨h.below.trans (hb.mono (by omega)), Nat.le_trans h.size hb.size, (hb.block _ (by omega)).trans h.a, (hb.block _ (by omega)).trans h.b, (hb.block _ (by omega)).trans h.z, (hb.block _ (by omega)).trans h.o⟩
theorem Four.call {w w1 w4 : World} {A B Z O : Array Value} {TA TB T : TypeId} (h : Four w w1 A B Z O TA TB T) (hb : Below w1.heap.size w1 w4) : Four w w4 A B Z O TA TB T := h.far (hb.mono h.size)
theorem Four.store {w wr : World} {A B Z O : Array Value} {TA TB T : TypeId} (h : Four w wr A B Z O TA TB T) (i : Nat) (v : Value) : Four w (wr.setCell ⟨w.heap.size + 1 + 1 + 1, i, none⟩ v) A B Z (O.setIfInBounds i v) TA TB T :=
  ⟨h.below.setCell (p := ⟨w.heap.size + 1 + 1 + 1, i, none⟩) (by show w.heap.size ≤ w.heap.size + 1 + 1 + 1; omega) v, by have := h.size; simpa using this,
    (heap_setCell_other _ _ _ _ (by show w.heap.size ≠ w.heap.size + 1 + 1 + 1; omega)).trans h.a, (heap_setCell_other _ _ _ _ (by show w.heap.size + 1 ≠ w.heap.size + 1 + 1 + 1; omega)).trans h.b, (heap_setCell_other _ _ _ _ (by show w.heap.size + 1 + 1 ≠ w.heap.size + 1 + 1 + 1; omega)).trans h.z,
    heap_setCell_same wr _ i O T v h.o⟩
theorem four_end {w wr : World} {A B O : Array Value} {TA TB : TypeId} {v : Value} {xs : List dRow} (h : Four w wr A B #[.slice none 0 0, .int .i64 0, .bool false] O TA TB 30) (hli : ListL ownRow 56 (w.heap.size + 4) wr.heap.size wr v xs) (L : Int) (q : Bool) :
    (((((wr.setCell ⟨w.heap.size + 1 + 1 + 1, 1, none⟩ (.int .i64 L)).setCell ⟨w.heap.size + 1 + 1 + 1, 2, none⟩ (.bool q)).setCell ⟨w.heap.size + 1 + 1, 0, none⟩ v).setCell ⟨w.heap.size + 1 + 1, 1, none⟩ (.int .i64 L)).setCell ⟨w.heap.size + 1 + 1, 2, none⟩ (.bool q)).heap[w.heap.size + 1 + 1]? = some (.cells #[v, .int .i64 L, .bool q] 30 (0, 0)) ∧
    shGrads.reads (From w.heap.size (((((wr.setCell ⟨w.heap.size + 1 + 1 + 1, 1, none⟩ (.int .i64 L)).setCell ⟨w.heap.size + 1 + 1 + 1, 2, none⟩ (.bool q)).setCell ⟨w.heap.size + 1 + 1, 0, none⟩ v).setCell ⟨w.heap.size + 1 + 1, 1, none⟩ (.int .i64 L)).setCell ⟨w.heap.size + 1 + 1, 2, none⟩ (.bool q)).heap.size) (((((wr.setCell ⟨w.heap.size + 1 + 1 + 1, 1, none⟩ (.int .i64 L)).setCell ⟨w.heap.size + 1 + 1 + 1, 2, none⟩ (.bool q)).setCell ⟨w.heap.size + 1 + 1, 0, none⟩ v).setCell ⟨w.heap.size + 1 + 1, 1, none⟩ (.int .i64 L)).setCell ⟨w.heap.size + 1 + 1, 2, none⟩ (.bool q)) [v, .int .i64 L, .bool q] (xs, L, q) ∧
    Below w.heap.size w (((((wr.setCell ⟨w.heap.size + 1 + 1 + 1, 1, none⟩ (.int .i64 L)).setCell ⟨w.heap.size + 1 + 1 + 1, 2, none⟩ (.bool q)).setCell ⟨w.heap.size + 1 + 1, 0, none⟩ v).setCell ⟨w.heap.size + 1 + 1, 1, none⟩ (.int .i64 L)).setCell ⟨w.heap.size + 1 + 1, 2, none⟩ (.bool q)) := by
  have h2 := (h.store 1 (.int .i64 L)).store 2 (.bool q)
  refine ⟨store3 h2.z _ _ _, ?_, ((h2.below.setCell (p := ⟨w.heap.size + 1 + 1, 0, none⟩) (by show _ ≤ w.heap.size + 1 + 1; omega) _).setCell (p := ⟨w.heap.size + 1 + 1, 1, none⟩) (by show _ ≤ w.heap.size + 1 + 1; omega) _).setCell (p := ⟨w.heap.size + 1 + 1, 2, none⟩) (by show _ ≤ w.heap.size + 1 + 1; omega) _⟩
  have hfin := ((((hli.stored (w.heap.size + 1 + 1 + 1) 1 (.int .i64 L) (by omega)).stored (w.heap.size + 1 + 1 + 1) 2 (.bool q) (by omega)).stored (w.heap.size + 1 + 1) 0 v (by omega)).stored (w.heap.size + 1 + 1) 1 (.int .i64 L) (by omega)).stored (w.heap.size + 1 + 1) 2 (.bool q) (by omega)
  obtain ⟨a', cap, rfl, e2, e3, e4⟩ := hfin.list (by decide)
  exact shGrads_reads.2 ⟨_, _, _, rfl, e2, e3, e4.listAt (fun b o f => ⟨by have := f.1; omega, by have := f.2; simpa using this⟩) (by decide)⟩
set_option maxRecDepth 100000 in
set_option maxHeartbeats 6400000 in
theorem specAddGrads_o (w : World) (es : List Value) (x : dGrads) (h : shGrads.reads (Under w.heap.size) w es x) (hb : shGrads.bulk x ≤ 1048576) (es' : List Value) (y : dGrads) (h' : shGrads.reads (Under w.heap.size) w es' y) (hb' : shGrads.bulk y ≤ 1048576) :
    Calls Tryz.prog 118 #[.agg es.toArray, .agg es'.toArray] w fun e w' => ∃ es', e = .returned (.agg es'.toArray) ∧ shGrads.reads (From w.heap.size w'.heap.size) w' es' (addG x y) ∧ Below w.heap.size w w' := by
  obtain ⟨a, n, c, rfl, hc1, hc2, hl⟩ := shGrads_reads.1 h
  obtain ⟨a', n', c', rfl, hd1, hd2, hl'⟩ := shGrads_reads.1 h'
  obtain ⟨i0, hi, hz0, hz1, hz2⟩ := info_parts infoRow1
  rw [shGrads_bulk, bulk_list _ hl] at hb
  rw [shGrads_bulk, bulk_list _ hl'] at hb'
  have hlen := hl.1
  have hlen' := hl'.1
  obtain ⟨N, hN⟩ : ∃ N, min n n' = N := ⟨_, rfl⟩
  have hN1 : N ≤ n := by omega
  have hN2 : N ≤ n' := by omega
  have hN3 : ∀ k, k < N ↔ (k < n ∧ k < n') := fun k => by omega
  obtain ⟨f, hf⟩ : ∃ f : Nat → List Int, f = fun j => addV (rowAt x.1 j) (rowAt y.1 j) := ⟨_, rfl⟩
  obtain ⟨fb, hfb⟩ : ∃ fb : Nat → Bool, fb = fun j => addVB (rowAt x.1 j) (rowAt y.1 j) := ⟨_, rfl⟩
  obtain ⟨L1, hL1⟩ : ∃ L, x.2.1 = L := ⟨_, rfl⟩
  obtain ⟨L2, hL2⟩ : ∃ L, y.2.1 = L := ⟨_, rfl⟩
  obtain ⟨s1, hs1⟩ : ∃ s, x.2.2 = s := ⟨_, rfl⟩
  obtain ⟨s2, hs2⟩ : ∃ s, y.2.2 = s := ⟨_, rfl⟩
  obtain ⟨S, hS⟩ : ∃ S, (s1 || s2) = S := ⟨_, rfl⟩
  obtain ⟨LL, hLL⟩ : ∃ L, addN L1 L2 = L := ⟨_, rfl⟩
  obtain ⟨LB, hLB⟩ : ∃ b, addB L1 L2 = b := ⟨_, rfl⟩
  have hV : addG x y = (listK f N, LL, S || anyK fb N || LB) := by
    unfold addG addRows addRowsB
    rw [hlen, hlen', hN, hL1, hL2, hs1, hs2, hS, hLL, hLB, hf, hfb]
  rw [hV, hL1, hL2, hs1, hs2]
  have hT := fun w => specFixAdd_any L1 L2 w
  rw [hLL, hLB] at hT
  have HT := Lib.hid hT
  have HF := Lib.hid hf
  have HFB := Lib.hid hfb
  have HL := Lib.hid hl
  have HL' := Lib.hid hl'
  have HBU := Lib.hid hb
  have HBU' := Lib.hid hb'
  have HN3 := Lib.hid hN3
  have HS := Lib.hid hS
  clear h h' hl hl' hb hb' hN hN3 hf hfb hL1 hL2 hs1 hs2 hLL hLB hT hV hS
  have hst : ∀ o, Four w ((((w.alloc (.cells #[.slice a n c, .int .i64 L1, .bool s1] 30 (0, 0))).alloc (.cells #[.slice a' n' c', .int .i64 L2, .bool s2] 30 (0, 0))).alloc (.cells #[.slice none 0 0, .int .i64 0, .bool false] 30 (0, 0))).alloc (.cells #[.slice none 0 0, .int .i64 0, .bool o] 30 (0, 0))) #[.slice a n c, .int .i64 L1, .bool s1] #[.slice a' n' c', .int .i64 L2, .bool s2] #[.slice none 0 0, .int .i64 0, .bool false] #[.slice none 0 0, .int .i64 0, .bool o] 30 30 30 := fun o => Four.start w _ _ _ _ _ _ _
  have HST := Lib.hid (hst S)
  clear hst
  cases s1
  · obtain rfl : s2 = S := HS.out
    go_enter Tryz.func118, Tryz.ntmps118
    go_wp2_with fail
    generalize (((w.alloc (.cells #[.slice a n c, .int .i64 L1, .bool false] 30 (0, 0))).alloc (.cells #[.slice a' n' c', .int .i64 L2, .bool s2] 30 (0, 0))).alloc (.cells #[.slice none 0 0, .int .i64 0, .bool false] 30 (0, 0))).alloc (.cells #[.slice none 0 0, .int .i64 0, .bool s2] 30 (0, 0)) = wa at HST ⊢
    go_loopw [6] (fun i wr => ∃ (k : Nat) (v : Value) (o : Bool), k ≤ N ∧ i = .int .i64 k ∧ Hid (o = (s2 || anyK fb k)) ∧ Four w wr #[.slice a n c, .int .i64 L1, .bool false] #[.slice a' n' c', .int .i64 L2, .bool s2] #[.slice none 0 0, .int .i64 0, .bool false] #[v, .int .i64 0, .bool o] 30 30 30 ∧ ListL ownRow 56 (w.heap.size + 4) wr.heap.size wr v (listK f k)) (fun i _ => N - (intOf i).toNat)
    case atStart => exact ⟨0, .slice none 0 0, _, Nat.zero_le _, rfl, Lib.hid (by simp [anyK]), HST.out, ListL.nil _ _ (Nat.le_refl _)⟩
    case round =>
      obtain ⟨k, v, o, hk, rfl, ho, hfo, hli⟩ := hrel
      obtain ⟨av, cv, rfl, -, -⟩ := hli.form
      have hkl := listK_length f k
      rw [hkl] at hfo hli
      have hsz4 := hfo.size
      have HFO := Lib.hid hfo
      have HLI := Lib.hid hli
      obtain ⟨⟨a0, a1, a2_⟩, -⟩ := cellsG hfo.a
      obtain ⟨⟨b0, b1, b2⟩, -⟩ := cellsG hfo.b
      obtain ⟨⟨z0, z1, z2⟩, y0, y1, y2⟩ := cellsG hfo.z
      obtain ⟨⟨d0, d1, d2⟩, f0, f1, f2⟩ := cellsG hfo.o
      clear hfo hli
      by_cases hlt : k < N
      · obtain ⟨hk1, hk2⟩ := (HN3.out k).1 hlt
        obtain ⟨p, hp⟩ : ∃ p, x.1[k]? = some p := ⟨_, List.getElem?_eq_getElem (by rw [hlen]; exact hk1)⟩
        obtain ⟨r, hr⟩ : ∃ r, y.1[k]? = some r := ⟨_, List.getElem?_eq_getElem (by rw [hlen']; exact hk2)⟩
        obtain ⟨b, o1, es, rfl, hbB, hrg, hs⟩ := HL.out.2 k p hp
        obtain ⟨b', o2, es', rfl, hbB', hrg', hs'⟩ := HL'.out.2 k r hr
        have hrr := rangeAt_kept hrg (show b < w.heap.size from hbB) (Kept.of_below (I := Under w.heap.size) HFO.out.below fun b hb => hb)
        have hrr' := rangeAt_kept hrg' (show b' < w.heap.size from hbB') (Kept.of_below (I := Under w.heap.size) HFO.out.below fun b hb => hb)
        have hdr : Below w.heap.size w wr.drew := HFO.out.below.trans ⟨rfl, rfl, rfl, Nat.le_refl _, fun _ _ => rfl⟩
        have hsw := shRow.below hs hdr (Nat.le_refl _)
        have hsw' := shRow.below hs' hdr (Nat.le_refl _)
        have hbx : shRow.bulk p ≤ 1048576 := by have h1 := bulk_mem shRow.bulk x.1 k p hp; have h2 := HBU.out; omega
        have hby : shRow.bulk r ≤ 1048576 := by have h1 := bulk_mem shRow.bulk y.1 k r hr; have h2 := HBU'.out; omega
        rw [shRow_bulk, bulk_ints] at hbx hby
        obtain ⟨ax, nx, cx, rfl, -, -, mx⟩ := shRow_reads.1 hsw
        obtain ⟨ay, ny, cy, rfl, -, -, my⟩ := shRow_reads.1 hsw'
        have hlx : p.length = nx := mx.1
        have hly : r.length = ny := my.1
        have hC := specL7Add_any wr.drew ax nx cx p ay ny cy r ((mx.ints (by omega)).le hdr.size) ((my.ints (by omega)).le hdr.size)
        have hfk : f k = addV p r := by
          rw [HF.out]
          show addV (rowAt x.1 k) (rowAt y.1 k) = _
          rw [rowAt_get hp, rowAt_get hr]
        have hgk : fb k = addVB p r := by
          rw [HFB.out]
          show addVB (rowAt x.1 k) (rowAt y.1 k) = _
          rw [rowAt_get hp, rowAt_get hr]
        rw [← hfk, ← hgk] at hC
        obtain ⟨fl, hfl⟩ : ∃ q, fb k = q := ⟨_, rfl⟩
        rw [hfl] at hC
        have HC := Lib.hid hC
        have HFL := Lib.hid hfl
        rw [shRow_size, Nat.mul_one] at hrr hrr'
        have c0 := hrr 0 _ rfl
        have c0' := hrr' 0 _ rfl
        simp only [Nat.add_zero] at c0 c0'
        clear hrg hrg' hrr hrr' hs hs' hsw hsw' mx my hp hr hbx hby hlx hly hfk hgk hfl hC hbB hbB'
        go_upto_region 5 with fail
        go_cut [7, 8] (fun t u wx => u = .bool fl ∧ Row wr.heap.size wx t (f k) ∧ Below wr.heap.size wr wx)
        case first =>
          go_region_law (first
            | (go_simp; go_at_call 180; (with_reducible refine HC.out.mono ?_); rintro e wt ⟨v', rfl, hr, hb⟩; have HR := Lib.hid hr; have HBT := Lib.hid hb; clear hr hb))
          all_goals
            go_wp2_with fail
            go_meet
            case rel => exact ⟨rfl, HR.out, ((Below.refl wr.heap.size wr).drew).trans HBT.out⟩
        case rest =>
          obtain ⟨rfl, hr, hb⟩ := hcut
          obtain ⟨w2, rfl⟩ : ∃ W, W = wc := ⟨_, rfl⟩
          obtain ⟨u2, hu2⟩ : ∃ u, u = f k := ⟨_, rfl⟩
          rw [← hu2] at hr
          obtain ⟨a2, c2, rfl, -⟩ := hr.form
          have hfo := HFO.out.call hb
          have hl2 := (HLI.out.below hb (Nat.le_refl _)).wide (hi' := wr.heap.size) (Nat.le_refl _) (Nat.le_refl _) hb.size
          have hsz5 := hfo.size
          obtain ⟨us, G, h1, h2, h3, h4, h5⟩ := hl2.all
          obtain ⟨n2, hn2⟩ : ∃ q, u2.length = q := ⟨_, rfl⟩
          rw [hn2] at hr ⊢
          have hP : Hid (∀ (w4 : World) (g cap : Nat), w4.ownsRow (w.heap.size + 4) 56 1 (.slice (some ⟨g, 0, none⟩) (k + 1) cap) (k + 1) (us ++ [.slice a2 n2 c2]) → (w2.alloc (.cells #[.slice a2 n2 c2] 56 (0, 0))).grownBy w4 (Value.slice av k cv).ownBlock →
              ((Value.slice av k cv).ownBlock = some g ∨ g = (w2.alloc (.cells #[.slice a2 n2 c2] 56 (0, 0))).heap.size) → ListL ownRow 56 (w.heap.size + 4) w4.heap.size w4 (.slice (some ⟨g, 0, none⟩) (k + 1) cap) (listK f (k + 1)) ∧ Below (w.heap.size + 4) w2 w4) := Lib.hid fun w4 g cap ho hgr hat => by
            have hp := ListL.put (S := ownRow) (T := 56) (lo := w.heap.size + 4) (hi := wr.heap.size) (w := w2) (w' := w4) (v := .slice av k cv) (v' := .slice (some ⟨g, 0, none⟩) (k + 1) cap) (xs := listK f k) (o := (.cells #[.slice a2 n2 c2] 56 (0, 0))) (x := u2) (F := FromB wr.heap.size w2.heap.size)
              hsz4 h1 h2 hb.size h3 h4 h5 (Row.ownRow hr) (fun b o f => f) rfl (by rw [hkl]; exact ho) hgr (by
                rcases hat with e | e
                · exact .inl e.symm
                · exact .inr (congrArg some e))
            rw [hu2] at hp
            exact hp
          rw [hkl] at h1
          have HRD : Hid ((w2.alloc (.cells #[.slice a2 n2 c2] 56 (0, 0))).ownsRow (w.heap.size + 4) 56 1 (.slice av k cv) k us) := Lib.hid (World.ownsRow.alloc h1 _)
          have HND : Hid (∀ j u, ([Value.slice a2 n2 c2] : List Value)[j]? = some u → (w2.alloc (.cells #[.slice a2 n2 c2] 56 (0, 0))).cell? ((⟨w2.heap.size, 0, none⟩ : Addr).add j) = some u) := Lib.hid (World.news_of_block (heap_alloc_new w2 (.cells #[.slice a2 n2 c2] 56 (0, 0))))
          have HBS : Hid (w.heap.size + 4 ≤ (w2.alloc (.cells #[.slice a2 n2 c2] 56 (0, 0))).heap.size) := Lib.hid (by rw [size_one']; omega)
          have HF2 := Lib.hid hfo
          have hk2' : k ≤ 1048576 := by have h2 := HBU.out; omega
          clear a0 a1 a2_ b0 b1 b2 z0 z1 z2 y0 y1 y2 d0 d1 d2 f0 f1 f2 c0 c0' h1 h2 h3 h4 h5 hl2 hb hr HFO HLI HC
          obtain ⟨⟨d0, d1, d2⟩, f0, f1, f2⟩ := cellsG hfo.o
          clear hfo
          cases o
          all_goals
            go_wp2_with (at_builtin; refine wpList_append_lies _ rfl _ _ 27 rfl (w.heap.size + 4) 56 i0 (.agg #[.slice none 0 0]) 1 24 Tryz.underlying27 hi hz0 hz1 hz2 rfl (by decide) _ _ _ rfl HRD.out ⟨w2.heap.size, 0, none⟩ 1 1 [.slice a2 n2 c2] rfl rfl HND.out (slices_one _ _ _) (by omega) (by unfold maxLen; omega) (by omega) HBS.out _ rfl ?_; intro g cap w4 hown4 hgrow4 hat4 _; obtain ⟨hli4, hb4⟩ := hP.out w4 g cap hown4 hgrow4 hat4; have hfo4 := HF2.out.far hb4; clear d0 d1 d2 f0 f1 f2 hown4 hgrow4 hat4; obtain ⟨⟨d0, d1, d2⟩, f0, f1, f2⟩ := cellsG hfo4.o; have HLI4 := Lib.hid hli4; have HFO4 := Lib.hid hfo4; clear hli4 hfo4 hb4)
            go_roundw
            case rel => first | exact ⟨k + 1, .slice (some ⟨g, 0, none⟩) (k + 1) cap, fl, by omega, by go_num, Lib.hid (by show _ = (s2 || (anyK fb k || fb k)); rw [HFL.out, ← Bool.or_assoc, ← ho.out] <;> rfl), by simpa using (HFO4.out.store 0 (.slice (some ⟨g, 0, none⟩) (k + 1) cap)).store 2 (.bool fl), by simpa using (HLI4.out.stored (w.heap.size + 1 + 1 + 1) 0 (.slice (some ⟨g, 0, none⟩) (k + 1) cap) (by omega)).stored (w.heap.size + 1 + 1 + 1) 2 (.bool fl) (by omega)⟩ | exact ⟨k + 1, .slice (some ⟨g, 0, none⟩) (k + 1) cap, true, by omega, by go_num, Lib.hid (by show _ = (s2 || (anyK fb k || fb k)); rw [HFL.out, ← Bool.or_assoc, ← ho.out] <;> rfl), by simpa using (HFO4.out.store 0 (.slice (some ⟨g, 0, none⟩) (k + 1) cap)).store 2 (.bool true), by simpa using (HLI4.out.stored (w.heap.size + 1 + 1 + 1) 0 (.slice (some ⟨g, 0, none⟩) (k + 1) cap) (by omega)).stored (w.heap.size + 1 + 1 + 1) 2 (.bool true) (by omega)⟩
            case measure => simp [intOf]; omega
      · obtain rfl : k = N := by omega
        have hno : ¬ (k < n ∧ k < n') := fun h => hlt ((HN3.out k).2 h)
        cases o
        · by_cases hk1 : k < n
          all_goals
            try have hk2 : ¬ k < n' := fun h => hno ⟨hk1, h⟩
            clear hno
            go_wp2_with fail
            refine (HT.out _).mono ?_
            rintro e w2 ⟨rfl, rfl⟩
            go_wp2_with fail
            have hE := four_end HFO.out HLI.out LL LB
            refine bodyPost_ret (results_cell_row rfl _ _ (w.heap.size + 1 + 1) 30 #[.slice av k cv, .int .i64 LL, .bool LB] (0, 0) _ rfl hE.1 Tryz.underlying30 rfl (by kernel_rfl)) rfl ?_
            have hO : (s2 || anyK fb k || LB) = LB := by rw [← ho.out] <;> rfl
            exact ⟨_, rfl, by rw [hO]; exact hE.2.1, hE.2.2⟩
        · by_cases hk1 : k < n
          all_goals
            try have hk2 : ¬ k < n' := fun h => hno ⟨hk1, h⟩
            clear hno
            go_wp2_with fail
            refine (HT.out _).mono ?_
            rintro e w2 ⟨rfl, rfl⟩
            go_wp2_with fail
            have hE := four_end HFO.out HLI.out LL true
            refine bodyPost_ret (results_cell_row rfl _ _ (w.heap.size + 1 + 1) 30 #[.slice av k cv, .int .i64 LL, .bool true] (0, 0) _ rfl hE.1 Tryz.underlying30 rfl (by kernel_rfl)) rfl ?_
            have hO : (s2 || anyK fb k || LB) = true := by rw [← ho.out] <;> rfl
            exact ⟨_, rfl, by rw [hO]; exact hE.2.1, hE.2.2⟩
  · obtain rfl : true = S := HS.out
    go_enter Tryz.func118, Tryz.ntmps118
    go_wp2_with fail
    generalize (((w.alloc (.cells #[.slice a n c, .int .i64 L1, .bool true] 30 (0, 0))).alloc (.cells #[.slice a' n' c', .int .i64 L2, .bool s2] 30 (0, 0))).alloc (.cells #[.slice none 0 0, .int .i64 0, .bool false] 30 (0, 0))).alloc (.cells #[.slice none 0 0, .int .i64 0, .bool true] 30 (0, 0)) = wa at HST ⊢
    go_loopw [6] (fun i wr => ∃ (k : Nat) (v : Value) (o : Bool), k ≤ N ∧ i = .int .i64 k ∧ Hid (o = (true || anyK fb k)) ∧ Four w wr #[.slice a n c, .int .i64 L1, .bool true] #[.slice a' n' c', .int .i64 L2, .bool s2] #[.slice none 0 0, .int .i64 0, .bool false] #[v, .int .i64 0, .bool o] 30 30 30 ∧ ListL ownRow 56 (w.heap.size + 4) wr.heap.size wr v (listK f k)) (fun i _ => N - (intOf i).toNat)
    case atStart => exact ⟨0, .slice none 0 0, _, Nat.zero_le _, rfl, Lib.hid (by simp [anyK]), HST.out, ListL.nil _ _ (Nat.le_refl _)⟩
    case round =>
      obtain ⟨k, v, o, hk, rfl, ho, hfo, hli⟩ := hrel
      obtain ⟨av, cv, rfl, -, -⟩ := hli.form
      have hkl := listK_length f k
      rw [hkl] at hfo hli
      have hsz4 := hfo.size
      have HFO := Lib.hid hfo
      have HLI := Lib.hid hli
      obtain ⟨⟨a0, a1, a2_⟩, -⟩ := cellsG hfo.a
      obtain ⟨⟨b0, b1, b2⟩, -⟩ := cellsG hfo.b
      obtain ⟨⟨z0, z1, z2⟩, y0, y1, y2⟩ := cellsG hfo.z
      obtain ⟨⟨d0, d1, d2⟩, f0, f1, f2⟩ := cellsG hfo.o
      clear hfo hli
      by_cases hlt : k < N
      · obtain ⟨hk1, hk2⟩ := (HN3.out k).1 hlt
        obtain ⟨p, hp⟩ : ∃ p, x.1[k]? = some p := ⟨_, List.getElem?_eq_getElem (by rw [hlen]; exact hk1)⟩
        obtain ⟨r, hr⟩ : ∃ r, y.1[k]? = some r := ⟨_, List.getElem?_eq_getElem (by rw [hlen']; exact hk2)⟩
        obtain ⟨b, o1, es, rfl, hbB, hrg, hs⟩ := HL.out.2 k p hp
        obtain ⟨b', o2, es', rfl, hbB', hrg', hs'⟩ := HL'.out.2 k r hr
        have hrr := rangeAt_kept hrg (show b < w.heap.size from hbB) (Kept.of_below (I := Under w.heap.size) HFO.out.below fun b hb => hb)
        have hrr' := rangeAt_kept hrg' (show b' < w.heap.size from hbB') (Kept.of_below (I := Under w.heap.size) HFO.out.below fun b hb => hb)
        have hdr : Below w.heap.size w wr.drew := HFO.out.below.trans ⟨rfl, rfl, rfl, Nat.le_refl _, fun _ _ => rfl⟩
        have hsw := shRow.below hs hdr (Nat.le_refl _)
        have hsw' := shRow.below hs' hdr (Nat.le_refl _)
        have hbx : shRow.bulk p ≤ 1048576 := by have h1 := bulk_mem shRow.bulk x.1 k p hp; have h2 := HBU.out; omega
        have hby : shRow.bulk r ≤ 1048576 := by have h1 := bulk_mem shRow.bulk y.1 k r hr; have h2 := HBU'.out; omega
        rw [shRow_bulk, bulk_ints] at hbx hby
        obtain ⟨ax, nx, cx, rfl, -, -, mx⟩ := shRow_reads.1 hsw
        obtain ⟨ay, ny, cy, rfl, -, -, my⟩ := shRow_reads.1 hsw'
        have hlx : p.length = nx := mx.1
        have hly : r.length = ny := my.1
        have hC := specL7Add_any wr.drew ax nx cx p ay ny cy r ((mx.ints (by omega)).le hdr.size) ((my.ints (by omega)).le hdr.size)
        have hfk : f k = addV p r := by
          rw [HF.out]
          show addV (rowAt x.1 k) (rowAt y.1 k) = _
          rw [rowAt_get hp, rowAt_get hr]
        have hgk : fb k = addVB p r := by
          rw [HFB.out]
          show addVB (rowAt x.1 k) (rowAt y.1 k) = _
          rw [rowAt_get hp, rowAt_get hr]
        rw [← hfk, ← hgk] at hC
        obtain ⟨fl, hfl⟩ : ∃ q, fb k = q := ⟨_, rfl⟩
        rw [hfl] at hC
        have HC := Lib.hid hC
        have HFL := Lib.hid hfl
        rw [shRow_size, Nat.mul_one] at hrr hrr'
        have c0 := hrr 0 _ rfl
        have c0' := hrr' 0 _ rfl
        simp only [Nat.add_zero] at c0 c0'
        clear hrg hrg' hrr hrr' hs hs' hsw hsw' mx my hp hr hbx hby hlx hly hfk hgk hfl hC hbB hbB'
        go_upto_region 5 with fail
        go_cut [7, 8] (fun t u wx => u = .bool fl ∧ Row wr.heap.size wx t (f k) ∧ Below wr.heap.size wr wx)
        case first =>
          go_region_law (first
            | (go_simp; go_at_call 180; (with_reducible refine HC.out.mono ?_); rintro e wt ⟨v', rfl, hr, hb⟩; have HR := Lib.hid hr; have HBT := Lib.hid hb; clear hr hb))
          all_goals
            go_wp2_with fail
            go_meet
            case rel => exact ⟨rfl, HR.out, ((Below.refl wr.heap.size wr).drew).trans HBT.out⟩
        case rest =>
          obtain ⟨rfl, hr, hb⟩ := hcut
          obtain ⟨w2, rfl⟩ : ∃ W, W = wc := ⟨_, rfl⟩
          obtain ⟨u2, hu2⟩ : ∃ u, u = f k := ⟨_, rfl⟩
          rw [← hu2] at hr
          obtain ⟨a2, c2, rfl, -⟩ := hr.form
          have hfo := HFO.out.call hb
          have hl2 := (HLI.out.below hb (Nat.le_refl _)).wide (hi' := wr.heap.size) (Nat.le_refl _) (Nat.le_refl _) hb.size
          have hsz5 := hfo.size
          obtain ⟨us, G, h1, h2, h3, h4, h5⟩ := hl2.all
          obtain ⟨n2, hn2⟩ : ∃ q, u2.length = q := ⟨_, rfl⟩
          rw [hn2] at hr ⊢
          have hP : Hid (∀ (w4 : World) (g cap : Nat), w4.ownsRow (w.heap.size + 4) 56 1 (.slice (some ⟨g, 0, none⟩) (k + 1) cap) (k + 1) (us ++ [.slice a2 n2 c2]) → (w2.alloc (.cells #[.slice a2 n2 c2] 56 (0, 0))).grownBy w4 (Value.slice av k cv).ownBlock →
              ((Value.slice av k cv).ownBlock = some g ∨ g = (w2.alloc (.cells #[.slice a2 n2 c2] 56 (0, 0))).heap.size) → ListL ownRow 56 (w.heap.size + 4) w4.heap.size w4 (.slice (some ⟨g, 0, none⟩) (k + 1) cap) (listK f (k + 1)) ∧ Below (w.heap.size + 4) w2 w4) := Lib.hid fun w4 g cap ho hgr hat => by
            have hp := ListL.put (S := ownRow) (T := 56) (lo := w.heap.size + 4) (hi := wr.heap.size) (w := w2) (w' := w4) (v := .slice av k cv) (v' := .slice (some ⟨g, 0, none⟩) (k + 1) cap) (xs := listK f k) (o := (.cells #[.slice a2 n2 c2] 56 (0, 0))) (x := u2) (F := FromB wr.heap.size w2.heap.size)
              hsz4 h1 h2 hb.size h3 h4 h5 (Row.ownRow hr) (fun b o f => f) rfl (by rw [hkl]; exact ho) hgr (by
                rcases hat with e | e
                · exact .inl e.symm
                · exact .inr (congrArg some e))
            rw [hu2] at hp
            exact hp
          rw [hkl] at h1
          have HRD : Hid ((w2.alloc (.cells #[.slice a2 n2 c2] 56 (0, 0))).ownsRow (w.heap.size + 4) 56 1 (.slice av k cv) k us) := Lib.hid (World.ownsRow.alloc h1 _)
          have HND : Hid (∀ j u, ([Value.slice a2 n2 c2] : List Value)[j]? = some u → (w2.alloc (.cells #[.slice a2 n2 c2] 56 (0, 0))).cell? ((⟨w2.heap.size, 0, none⟩ : Addr).add j) = some u) := Lib.hid (World.news_of_block (heap_alloc_new w2 (.cells #[.slice a2 n2 c2] 56 (0, 0))))
          have HBS : Hid (w.heap.size + 4 ≤ (w2.alloc (.cells #[.slice a2 n2 c2] 56 (0, 0))).heap.size) := Lib.hid (by rw [size_one']; omega)
          have HF2 := Lib.hid hfo
          have hk2' : k ≤ 1048576 := by have h2 := HBU.out; omega
          clear a0 a1 a2_ b0 b1 b2 z0 z1 z2 y0 y1 y2 d0 d1 d2 f0 f1 f2 c0 c0' h1 h2 h3 h4 h5 hl2 hb hr HFO HLI HC
          obtain ⟨⟨d0, d1, d2⟩, f0, f1, f2⟩ := cellsG hfo.o
          clear hfo
          cases o
          all_goals
            go_wp2_with (at_builtin; refine wpList_append_lies _ rfl _ _ 27 rfl (w.heap.size + 4) 56 i0 (.agg #[.slice none 0 0]) 1 24 Tryz.underlying27 hi hz0 hz1 hz2 rfl (by decide) _ _ _ rfl HRD.out ⟨w2.heap.size, 0, none⟩ 1 1 [.slice a2 n2 c2] rfl rfl HND.out (slices_one _ _ _) (by omega) (by unfold maxLen; omega) (by omega) HBS.out _ rfl ?_; intro g cap w4 hown4 hgrow4 hat4 _; obtain ⟨hli4, hb4⟩ := hP.out w4 g cap hown4 hgrow4 hat4; have hfo4 := HF2.out.far hb4; clear d0 d1 d2 f0 f1 f2 hown4 hgrow4 hat4; obtain ⟨⟨d0, d1, d2⟩, f0, f1, f2⟩ := cellsG hfo4.o; have HLI4 := Lib.hid hli4; have HFO4 := Lib.hid hfo4; clear hli4 hfo4 hb4)
            go_roundw
            case rel => first | exact ⟨k + 1, .slice (some ⟨g, 0, none⟩) (k + 1) cap, fl, by omega, by go_num, Lib.hid (by show _ = (true || (anyK fb k || fb k)); rw [HFL.out, ← Bool.or_assoc, ← ho.out] <;> rfl), by simpa using (HFO4.out.store 0 (.slice (some ⟨g, 0, none⟩) (k + 1) cap)).store 2 (.bool fl), by simpa using (HLI4.out.stored (w.heap.size + 1 + 1 + 1) 0 (.slice (some ⟨g, 0, none⟩) (k + 1) cap) (by omega)).stored (w.heap.size + 1 + 1 + 1) 2 (.bool fl) (by omega)⟩ | exact ⟨k + 1, .slice (some ⟨g, 0, none⟩) (k + 1) cap, true, by omega, by go_num, Lib.hid (by show _ = (true || (anyK fb k || fb k)); rw [HFL.out, ← Bool.or_assoc, ← ho.out] <;> rfl), by simpa using (HFO4.out.store 0 (.slice (some ⟨g, 0, none⟩) (k + 1) cap)).store 2 (.bool true), by simpa using (HLI4.out.stored (w.heap.size + 1 + 1 + 1) 0 (.slice (some ⟨g, 0, none⟩) (k + 1) cap) (by omega)).stored (w.heap.size + 1 + 1 + 1) 2 (.bool true) (by omega)⟩
            case measure => simp [intOf]; omega
      · obtain rfl : k = N := by omega
        have hno : ¬ (k < n ∧ k < n') := fun h => hlt ((HN3.out k).2 h)
        cases o
        · by_cases hk1 : k < n
          all_goals
            try have hk2 : ¬ k < n' := fun h => hno ⟨hk1, h⟩
            clear hno
            go_wp2_with fail
            refine (HT.out _).mono ?_
            rintro e w2 ⟨rfl, rfl⟩
            go_wp2_with fail
            have hE := four_end HFO.out HLI.out LL LB
            refine bodyPost_ret (results_cell_row rfl _ _ (w.heap.size + 1 + 1) 30 #[.slice av k cv, .int .i64 LL, .bool LB] (0, 0) _ rfl hE.1 Tryz.underlying30 rfl (by kernel_rfl)) rfl ?_
            have hO : (true || anyK fb k || LB) = LB := by rw [← ho.out] <;> rfl
            exact ⟨_, rfl, by rw [hO]; exact hE.2.1, hE.2.2⟩
        · by_cases hk1 : k < n
          all_goals
            try have hk2 : ¬ k < n' := fun h => hno ⟨hk1, h⟩
            clear hno
            go_wp2_with fail
            refine (HT.out _).mono ?_
            rintro e w2 ⟨rfl, rfl⟩
            go_wp2_with fail
            have hE := four_end HFO.out HLI.out LL true
            refine bodyPost_ret (results_cell_row rfl _ _ (w.heap.size + 1 + 1) 30 #[.slice av k cv, .int .i64 LL, .bool true] (0, 0) _ rfl hE.1 Tryz.underlying30 rfl (by kernel_rfl)) rfl ?_
            have hO : (true || anyK fb k || LB) = true := by rw [← ho.out] <;> rfl
            exact ⟨_, rfl, by rw [hO]; exact hE.2.1, hE.2.2⟩
end Go.Proofs.YtpnifgpmleaohaaGreatDoor
