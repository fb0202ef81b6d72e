/-
  Stages: where the k-th thing of each micro-batch stands, in a map (the program's placesOf); FindSaved.
-/
import Derived.Test.YtpnifgpmleaohaaSlotM
import Derived.Test.YtpnifgpmleaohaaStgS
import Derived.Maps.Own
import Derived.Maps.OwnOps
import Derived.Maps.OwnSet
import Derived.DeepKeys4
import Derived.Deep.QuietTactic
import Derived.BigQuiet
namespace Go.Proofs.Ytpnifgpmleaohaa
open Go.RowKit Go.Sort Go.Maps
set_option linter.unusedVariables false
set_option linter.unusedSimpArgs false

theorem slotLaid : laidOutB Try.prog = true := by kernel_rfl
theorem slotRow : (115 : TypeId) < Try.prog.types.size := of_decide_eq_true (by kernel_rfl)
theorem slotKind : Try.prog.keyTypeAt 2 115 = true := by kernel_rfl
theorem slotLaw : Keyed Try.prog 115 := Keyed.of_law (deep_law_laid slotLaid (m := 2) (by omega) slotRow slotKind (by rw [Try.underlying115]))
theorem slotDeep : Try.prog.keyType 115 = true := by kernel_rfl
theorem slotSize : ∃ m, Try.prog.types.size = m + 1 := ⟨Try.prog.types.size - 1, by have : 0 < Try.prog.types.size := of_decide_eq_true (by kernel_rfl); omega⟩
def slotL (m a : Int) : Lit := .string (keyBytes [.int .i64 m, .int .i64 a])
theorem slotCells : Try.prog.cellsOf 115 = 2 := by kernel_rfl
theorem intCells : Try.prog.cellsOf 3 = 1 := by kernel_rfl
theorem slot_key {m a : Int} (hm : In64 m) (ha : In64 a) : keyOf Try.prog 115 (.agg #[.int .i64 m, .int .i64 a]) = some (slotL m a) := by
  have hkt := slotDeep
  have hc := slotCells
  have hi := intCells
  obtain ⟨s, hs⟩ := slotSize
  have wm := hm.wf
  have wa := ha.wf
  unfold keyOf
  simp only [Try.underlying115]
  rw [if_pos (by simp [hkt, Value.formed, Try.underlying115, hc]), hs]
  unfold Program.keyLits
  simp only [Try.underlying115, Value.cells]
  simp [hc, hi, Program.keyLits, Try.underlying3, wm, wa, slotL]
theorem slotKeys : SlotKeys slotL where
  key hm ha := slotLaw.key (slot_key hm ha)
  inj hm ha hm' ha' e := by
    have h := slotLaw.inj (slot_key hm ha) ((slot_key hm' ha').trans (congrArg some e.symm))
    simpa using h
theorem intLaw : Keyed Try.prog 3 := int_keyed Try.underlying3
theorem int_key {m : Int} (hm : In64 m) : keyOf Try.prog 3 (.int .i64 m) = some (.int .i64 m) := keyOf_int_mk Try.underlying3 hm.wf
theorem zeroInt (w : World) : (zeroValue 3).run Try.prog w = .ok (.int .i64 0) w := by kernel_rfl
/-- The numbers of what is saved are of 64 bits. -/
def WideS (l : List dSaved) : Prop := ∀ x ∈ l, In64 x.1
abbrev msOf (l : List dSaved) : List Int := l.map (·.1)
/-- How many of each number there were. -/
def Counted {H : Type} (ms : List Int) (D : DataW H) : Prop := ∀ m, In64 m → D.atKey (.int .i64 m) (.lit (.int .i64 0)) = .lit (.int .i64 ((ms.count m : Nat) : Int))
theorem Counted.empty {H : Type} : Counted (H := H) [] (.map []) := fun m _ => by rfl
theorem Counted.step {H : Type} {ms : List Int} {D : DataW H} (h : Counted ms D) (hM : IsMap D) {m : Int} (hm : In64 m) : Counted (ms ++ [m]) (D.put (.int .i64 m) (.lit (.int .i64 (((ms.count m : Nat) : Int) + 1)))) := fun x hx => by
  by_cases e : x = m
  · subst e
    rw [atKey_put_same hM (intLaw.key (int_key hm)), List.count_append, List.count_singleton_self]
    rfl
  · rw [atKey_put_other (fun e' => e (by injection e')), h x hx, List.count_append]
    have : [m].count x = 0 := List.count_eq_zero_of_not_mem (by simpa using e)
    rw [this, Nat.add_zero]
theorem lit_int {H : Type} {x y : Int} (h : (DataW.lit (.int .i64 x) : DataW H) = .lit (.int .i64 y)) : x = y := by
  injection h with h
  injection h
set_option maxRecDepth 100000 in
set_option maxHeartbeats 3200000 in
theorem implPlacesOf_o (w : World) (a : Option Addr) (n c : Nat) (l : List dSaved) (h : ListAt shSaved (Under w.heap.size) w a n l) (hn : n ≤ 1048576) (hw : WideS l) :
    Calls Try.prog 76 #[.slice a n c] w fun e w' => ∃ D : DataW Unit, e = .returned (.map (some w.heap.size)) ∧ w'.ownsMap Try.prog 115 (plainElem Try.prog 3) w.heap.size n D ∧ Placed slotL (msOf l) D ∧ Below w.heap.size w w' := by
  have hmm := @run_makeMap Try.prog
  have hA := ((Below.refl w.heap.size w).alloc (Nat.le_refl _) (.map #[] 0)).alloc (by simp) (.map #[] 0)
  have hP : ((w.alloc (.map #[] 0)).alloc (.map #[] 0)).ownsMap (H := Unit) Try.prog 115 (plainElem Try.prog 3) w.heap.size 0 (.map []) := (World.ownsMap_made w _ _ _).alloc _
  have hS : ((w.alloc (.map #[] 0)).alloc (.map #[] 0)).ownsMap (H := Unit) Try.prog 3 (plainElem Try.prog 3) (w.heap.size + 1) 0 (.map []) := by
    have := World.ownsMap_made (H := Unit) (w.alloc (.map #[] 0)) Try.prog 3 (plainElem Try.prog 3)
    rwa [World.size_alloc] at this
  have HL := Lib.hid h
  have HLEN := Lib.hid h.1
  have HW := Lib.hid hw
  have HA := Lib.hid hA
  have HP := Lib.hid hP
  have HS := Lib.hid hS
  clear h hw hA hP hS
  go_enter Try.func76, Try.ntmps76
  go_wp2_with fail
  generalize (w.alloc (.map #[] 0)).alloc (.map #[] 0) = W0 at HA HP HS ⊢
  clear hmm
  go_loopw [11] (fun i wr => ∃ (k : Nat) (Dp Ds : DataW Unit), k ≤ n ∧ i = .int .i64 k ∧ wr.ownsMap Try.prog 115 (plainElem Try.prog 3) w.heap.size k Dp ∧ Placed slotL (msOf (l.take k)) Dp ∧
      wr.ownsMap Try.prog 3 (plainElem Try.prog 3) (w.heap.size + 1) k Ds ∧ Counted (msOf (l.take k)) Ds ∧ Below w.heap.size w wr) (fun i _ => n - (intOf i).toNat)
  case atStart => exact ⟨0, _, _, Nat.zero_le _, rfl, HP.out, Placed.empty _, HS.out, Counted.empty, HA.out⟩
  case round =>
    obtain ⟨k, Dp, Ds, hk, rfl, hop, hpl, hos, hct, hbw⟩ := hrel
    have hsz := hbw.size
    by_cases hlt : k < n
    · obtain ⟨b, o, x, ax, nx, cx, hx, rfl, hbB, hc0, hc1, -, -, -⟩ := saved_at HL.out k hlt
      have hM64 : In64 x.1 := HW.out x (List.mem_of_getElem? hx)
      have htk : msOf (l.take (k + 1)) = msOf (l.take k) ++ [x.1] := by unfold msOf; rw [List.take_add_one, hx, List.map_append]; rfl
      have hlk : (msOf (l.take k)).length = k := by unfold msOf; rw [List.length_map, List.length_take, HLEN.out]; omega
      have hwm : ∀ y ∈ msOf (l.take k), In64 y := fun y hy => by
        obtain ⟨z, hz, rfl⟩ := List.mem_map.1 hy
        exact HW.out z (List.mem_of_mem_take hz)
      obtain ⟨M, hM⟩ : ∃ M, x.1 = M := ⟨_, rfl⟩
      rw [hM] at hc0 hM64 htk
      have hstepP := hpl.step slotKeys hwm hM64 (by omega)
      have hstepS := hct.step hos.isMap hM64
      have hctM := hct M hM64
      have hle := List.count_le_length (a := M) (l := msOf (l.take k))
      rw [hlk] at hstepP hle
      obtain ⟨q, hq⟩ : ∃ q, (msOf (l.take k)).count M = q := ⟨_, rfl⟩
      rw [hq] at hstepP hstepS hctM hle
      have d0 := (hbw.cell (p := ⟨b, o + k * 2, none⟩) hbB).trans hc0
      have d1 := (hbw.cell (p := ⟨b, o + k * 2 + 1, none⟩) hbB).trans hc1
      have hal := (Below.refl wr.heap.size wr).alloc (Nat.le_refl _) (.cells #[.int .i64 M, .slice ax nx cx] 90 (0, 0))
      have hbk := heap_alloc_new wr (.cells #[.int .i64 M, .slice ax nx cx] 90 (0, 0))
      have hop1 := hop.alloc (.cells #[.int .i64 M, .slice ax nx cx] 90 (0, 0))
      have hos1 := hos.alloc (.cells #[.int .i64 M, .slice ax nx cx] 90 (0, 0))
      have hpw := hop.lt
      have hsw := hos.lt
      have q64 : In64 (q : Int) := ⟨by omega, by omega⟩
      have HTK := Lib.hid htk
      have HSP := Lib.hid hstepP
      have HSS := Lib.hid hstepS
      have HCM := Lib.hid hctM
      have HBW := Lib.hid hbw
      have HAL := Lib.hid hal
      have HBN := Lib.hid hbk
      have HOP := Lib.hid hop1
      have HOS := Lib.hid hos1
      clear hx hc0 hc1 hM htk hstepP hstepS hctM hbw hal hbk hop hos hop1 hos1 hpl hct hlk hwm hq
      go_upto_region 5 with fail
      clear d0 d1
      generalize wr.alloc (.cells #[.int .i64 M, .slice ax nx cx] 90 (0, 0)) = wb at HAL HBN HOP HOS ⊢
      have y0 : wb.cell? ⟨wr.heap.size, 0, none⟩ = some (.int .i64 M) := box14 HBN.out 0 _ rfl
      go_upto_region 6 with (first
        | (at_lookup; refine wpList_lookup_own_int _ rfl _ _ 134 rfl 3 3 .i64 intLaw Try.underlying134 Try.underlying3 (zeroInt _) (w.heap.size + 1) k Ds rfl HOS.out _ _ rfl (int_key hM64) ?_; intro c1 hat1 hwc1; obtain rfl : (q : Int) = c1 := lit_int (HCM.out.symm.trans hat1); clear hat1 hwc1)
        | (at_mapUpdate; refine wpList_mapUpdate_own _ rfl _ _ _ 112 rfl 115 3 slotLaw Try.underlying112 _ w.heap.size k Dp rfl HOP.out (by unfold maxLen; omega) _ _ _ rfl rfl (slot_key hM64 q64) _ [] (plainElem_int Try.underlying3 (In64.wf (x := (k : Int)) ⟨by omega, by omega⟩)) ?_; intro w1 hown1 hgrow1))
      have hs1 := hgrow1.size
      have hbs : wr.heap.size < wb.heap.size := (Array.getElem?_eq_some_iff.1 HBN.out).1
      have hos2 := HOS.out.kept hgrow1 (fun e => by injection e; omega)
      have hb2 := (hgrow1.block wr.heap.size hbs (fun e => by injection e; omega)).trans HBN.out
      have z0 : w1.cell? ⟨wr.heap.size, 0, none⟩ = some (.int .i64 M) := box14 hb2 0 _ rfl
      have hbb : Below w.heap.size w w1 := (HBW.out.trans (HAL.out.mono hsz)).grown hgrow1 (by have := HAL.out.size; omega) (fun j e => by cases e; exact Nat.le_refl _)
      have HOP1 := Lib.hid hown1
      have HOS1 := Lib.hid hos2
      have HB1 := Lib.hid hbb
      clear hown1 hgrow1 hos2 hb2 hbb y0
      have hwr : wrap64 ((q : Int) + 1) = (q : Int) + 1 := by unfold wrap64; omega
      go_wp2_with (first
        | (at_lookup; refine wpList_lookup_own_int _ rfl _ _ 134 rfl 3 3 .i64 intLaw Try.underlying134 Try.underlying3 (zeroInt _) (w.heap.size + 1) k Ds rfl HOS1.out _ _ rfl (int_key hM64) ?_; intro c1 hat1 hwc1; obtain rfl : (q : Int) = c1 := lit_int (HCM.out.symm.trans hat1); clear hat1 hwc1)
        | (at_mapUpdate; refine wpList_mapUpdate_own _ rfl _ _ _ 134 rfl 3 3 intLaw Try.underlying134 _ (w.heap.size + 1) k Ds rfl HOS1.out (by unfold maxLen; omega) _ _ _ rfl rfl (int_key hM64) _ [] (plainElem_int Try.underlying3 (In64.wf (x := (q : Int) + 1) ⟨by omega, by omega⟩)) ?_; intro w2 hown2 hgrow2))
      have hop2 := HOP1.out.kept hgrow2 (fun e => by injection e; omega)
      have hb3 : Below w.heap.size w w2 := HB1.out.grown hgrow2 (by omega) (fun j e => by cases e; omega)
      have HOP2 := Lib.hid hop2
      have HOS2 := Lib.hid hown2
      have HB3 := Lib.hid hb3
      clear hown2 hgrow2 hop2 hb3
      go_roundw
      case rel => exact ⟨k + 1, _, _, by omega, by go_num, HOP2.out, by rw [HTK.out]; exact HSP.out, HOS2.out, by rw [HTK.out]; exact HSS.out, HB3.out⟩
      case measure => simp [intOf]; omega
    · obtain rfl : k = n := by omega
      rw [List.take_of_length_le (Nat.le_of_eq HLEN.out)] at hpl
      have HOP := Lib.hid hop
      have HPL := Lib.hid hpl
      have HBW := Lib.hid hbw
      clear hop hpl hos hct hbw
      go_wp2_with fail
      go_ret
      exact ⟨_, rfl, HOP.out, HPL.out, HBW.out⟩
theorem first_get {l : List dSaved} {m : Int} {k : Nat} : (msOf l)[k]? = some m ↔ ∃ x, l[k]? = some x ∧ x.1 = m := by
  unfold msOf
  rw [List.getElem?_map]
  cases l[k]? <;> simp
/-- What FindSaved finds. -/
theorem find_cases (l : List dSaved) (m : Int) : (∃ k : Nat, findN l m = (k : Int) ∧ (msOf l)[k]? = some m ∧ ∀ j, j < k → (msOf l)[j]? ≠ some m) ∨ (findN l m = -1 ∧ m ∉ msOf l) := by
  unfold findN
  cases h : l.findIdx? (fun x => decide (x.1 = m)) with
  | none =>
    rw [List.findIdx?_eq_none_iff] at h
    refine .inr ⟨rfl, fun hm => ?_⟩
    obtain ⟨x, hx, rfl⟩ := List.mem_map.1 hm
    simpa using h x hx
  | some k =>
    rw [List.findIdx?_eq_some_iff_getElem] at h
    obtain ⟨hk, h1, h2⟩ := h
    refine .inl ⟨k, rfl, first_get.2 ⟨_, List.getElem?_eq_getElem hk, of_decide_eq_true h1⟩, fun j hj e => ?_⟩
    obtain ⟨x, hx, e'⟩ := first_get.1 e
    have := h2 j hj
    rw [List.getElem?_eq_getElem (by omega)] at hx
    rw [Option.some.inj hx, e'] at this
    simp at this
set_option maxRecDepth 100000 in
set_option maxHeartbeats 3200000 in
theorem implFindSaved_d (w : World) (a : Option Addr) (n c : Nat) (l : List dSaved) (h : ListAt shSaved (Under w.heap.size) w a n l) (g1 : n ≤ c) (g2 : c ≤ 9223372036854775807) (hb : (Shape.list shSaved).bulk l ≤ 1048576) (hw : WideS l) (m : Int) (hm : In64 m) :
    Calls Try.prog 29 #[.slice a n c, .int .i64 m] w fun e w' => e = .returned (.int .i64 (findN l m)) ∧ Below w.heap.size w w' := by
  rw [bulk_list shSaved h] at hb
  have HC := Lib.hid (implPlacesOf_o w a n c l h (by omega) hw)
  have hn : n ≤ 1048576 := by omega
  have HF := Lib.hid (find_cases l m)
  obtain ⟨R, hR⟩ : ∃ R, findN l m = R := ⟨_, rfl⟩
  rw [hR] at HF ⊢
  clear h hb hw hR
  go_enter Try.func29, Try.ntmps29
  go_wp2_with fail
  refine HC.out.mono ?_
  rintro e w1 ⟨D, rfl, hown, hpl, hb⟩
  have HO := Lib.hid hown
  have HB := Lib.hid hb
  have hm0 : In64 0 := ⟨by omega, by omega⟩
  rcases HF.out with ⟨k, hRk, hk, h0⟩ | ⟨hR1, hno⟩
  · obtain ⟨hat, hhas⟩ := hpl.first hk h0
    have HAT := Lib.hid hat
    have HHAS := Lib.hid hhas
    clear hown hpl hb hat hhas hk h0
    obtain rfl := hRk
    go_wp2_with (at_lookup; refine wpList_lookup_own_ok_int _ rfl _ _ 112 rfl 115 3 .i64 slotLaw Try.underlying112 Try.underlying3 (zeroInt _) w.heap.size n D rfl HO.out _ _ rfl (slot_key hm hm0) ?_; intro c1 hat1 hwc1; obtain rfl : (k : Int) = c1 := lit_int ((HAT.out _).symm.trans hat1); clear hat1 hwc1; rw [HHAS.out])
    go_ret
    exact ⟨rfl, HB.out⟩
  · have hhas := hpl.lacks hm hno
    have hat := fun z : DataW Unit => atKey_of_not_has hhas z
    have HAT := Lib.hid hat
    have HHAS := Lib.hid hhas
    clear hown hpl hb hat hhas hno
    obtain rfl := hR1
    go_wp2_with (at_lookup; refine wpList_lookup_own_ok_int _ rfl _ _ 112 rfl 115 3 .i64 slotLaw Try.underlying112 Try.underlying3 (zeroInt _) w.heap.size n D rfl HO.out _ _ rfl (slot_key hm hm0) ?_; intro c1 hat1 hwc1; obtain rfl : (0 : Int) = c1 := lit_int ((HAT.out _).symm.trans hat1); clear hat1 hwc1; rw [HHAS.out])
    go_ret
    exact ⟨rfl, HB.out⟩
end Go.Proofs.Ytpnifgpmleaohaa
