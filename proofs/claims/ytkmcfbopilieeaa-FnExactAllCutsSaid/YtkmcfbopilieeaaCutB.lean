/-
  The model's AllCuts.
-/
import Derived.Test.YtkmcfbopilieeaaCutA
import Derived.Test.YtkmcfbopilieeaaSpecFix
namespace Go.Proofs.Ytkmcfbopilieeaa
open Go.RowKit
set_option linter.unusedVariables false

/-- A list of a call's own that leaves one block alone. -/
def ListM {α : Type} (S : Owned α) (T : TypeId) (lo hi g : Nat) (w : World) (v : Value) (xs : List α) : Prop :=
  hi ≤ w.heap.size ∧ g < hi ∧ ∃ (us : List Value) (G : Nat → Foot), w.ownsRow lo T S.size v xs.length us ∧ (∀ k, v.ownBlock = some k → k < hi ∧ k ≠ g) ∧
    (∀ j x, xs[j]? = some x → ∃ es, (∀ i u, es[i]? = some u → us[j * S.size + i]? = some u) ∧ S.owns (G j) w es x) ∧
    (∀ j b o, G j b o → lo ≤ b ∧ b < hi ∧ v.ownBlock ≠ some b ∧ b ≠ g) ∧ ∀ j j', j ≠ j' → Apart (G j) (G j')
section
variable {α : Type} {S : Owned α} {T : TypeId} {lo hi g : Nat} {w w' : World} {v v' : Value} {xs : List α}
theorem ListM.toL (h : ListM S T lo hi g w v xs) : ListL S T lo hi w v xs := by
  obtain ⟨h0, h1, us, G, h2, h3, h4, h5, h6⟩ := h
  exact ⟨h0, us, G, h2, fun k hk => (h3 k hk).1, h4, fun j b o f => ⟨(h5 j b o f).1, (h5 j b o f).2.1, (h5 j b o f).2.2.1⟩, h6⟩
theorem ListM.same {hi' : Nat} (h : ListM S T lo hi g w v xs) (hb : ∀ k, lo ≤ k → k < hi → k ≠ g → w'.heap[k]? = w.heap[k]?) (hh : hi ≤ hi') (ht : hi' ≤ w'.heap.size) : ListM S T lo hi' g w' v xs := by
  obtain ⟨h0, h1, us, G, h2, h3, h4, h5, h6⟩ := h
  refine ⟨ht, by omega, us, G, ⟨h2.1, h2.2.imp id ?_⟩, fun k hk => ⟨Nat.lt_of_lt_of_le (h3 k hk).1 hh, (h3 k hk).2⟩, fun j x hx => ?_, fun j b o f => ⟨(h5 j b o f).1, Nat.lt_of_lt_of_le (h5 j b o f).2.1 hh, (h5 j b o f).2.2⟩, h6⟩
  · rintro ⟨k, cap, cur, rfl, e1, e2, e3⟩
    exact ⟨k, cap, cur, rfl, e1, (hb k e1 (h3 k rfl).1 (h3 k rfl).2).trans e2, e3⟩
  · obtain ⟨es, q1, q2⟩ := h4 j x hx
    refine ⟨es, q1, S.owns_keep q2 fun b o f => ?_⟩
    have h7 := h5 j b o f
    have h8 := hb b h7.1 h7.2.1 h7.2.2.2
    exact ⟨World.cell?_of_block (a := ⟨b, o, none⟩) h8, World.frozen?_of_block (a := ⟨b, o, none⟩) h8⟩
theorem ListM.put {es : List Value} {x : α} {F : Foot} {o : Obj} {us : List Value} {G : Nat → Foot} (hlo : lo ≤ hi) (hgh : g < hi)
    (h1 : w.ownsRow lo T S.size v xs.length us) (h2 : ∀ k, v.ownBlock = some k → k < hi ∧ k ≠ g) (hh : hi ≤ w.heap.size) (h3 : ∀ j x, xs[j]? = some x → ∃ es, (∀ i u, es[i]? = some u → us[j * S.size + i]? = some u) ∧ S.owns (G j) w es x)
    (h4 : ∀ j b o, G j b o → lo ≤ b ∧ b < hi ∧ v.ownBlock ≠ some b ∧ b ≠ g) (h5 : ∀ j j', j ≠ j' → Apart (G j) (G j'))
    (hs : S.owns F w es x) (hF : ∀ b o, F b o → hi ≤ b ∧ b < w.heap.size) (hl : es.length = S.size)
    (hown : w'.ownsRow lo T S.size v' (xs.length + 1) (us ++ es)) (hg : (w.alloc o).grownBy w' v.ownBlock) (hv : v'.ownBlock = v.ownBlock ∨ v'.ownBlock = some (w.alloc o).heap.size) :
    ListM S T lo w'.heap.size g w' v' (xs ++ [x]) ∧ Below lo w w' := by
  have hsz : w.heap.size < (w.alloc o).heap.size := by simp
  have hszw : w.heap.size ≤ w'.heap.size := Nat.le_trans (Nat.le_of_lt hsz) hg.size
  have hus : us.length = xs.length * S.size := h1.1
  have hbe : Below lo w w' := ((Below.refl lo w).alloc (Nat.le_trans hlo hh) o).grown hg (by omega) (fun k hk => (World.ownsRow.lt h1 k hk).1)
  have hkeep : ∀ (F : Foot), (∀ b o, F b o → b < w.heap.size ∧ v.ownBlock ≠ some b) → SameAt F w w' := fun F hF b o f => by
    have hb := hF b o f
    have e := (hg.block b (Nat.lt_trans hb.1 hsz) (fun e => hb.2 e.symm)).trans (Below.heap_alloc w _ _ hb.1)
    exact ⟨World.cell?_of_block (a := ⟨b, o, none⟩) e, World.frozen?_of_block (a := ⟨b, o, none⟩) e⟩
  have hvg : ∀ k, v'.ownBlock = some k → k ≠ g := fun k hk => by
    rcases hv with e | e
    · rw [e] at hk
      exact (h2 k hk).2
    · rw [e] at hk
      have e2 : (w.alloc o).heap.size = k := by simpa using hk
      omega
  refine ⟨⟨Nat.le_refl _, by omega, us ++ es, fun j => if j < xs.length then G j else if j = xs.length then F else fun _ _ => False, by simpa using hown, fun k hk => ⟨(World.ownsRow.lt hown k hk).2, hvg k hk⟩, fun j y hy => ?_, fun j b o' f => ?_, fun j j' hne b o' f f' => ?_⟩, hbe⟩
  · by_cases hj : j < xs.length
    · rw [List.getElem?_append_left hj] at hy
      obtain ⟨es', q1, q2⟩ := h3 j y hy
      simp only [if_pos hj]
      refine ⟨es', fun i u hu => ?_, S.owns_keep q2 (hkeep _ fun b o f => ⟨Nat.lt_of_lt_of_le (h4 j b o f).2.1 hh, (h4 j b o f).2.2.1⟩)⟩
      have := q1 i u hu
      rw [List.getElem?_append_left (List.getElem?_eq_some_iff.1 this).1]
      exact this
    · rw [List.getElem?_append_right (by omega)] at hy
      have hj0 : j - xs.length = 0 := by
        cases e : j - xs.length with
        | zero => rfl
        | succ i => rw [e] at hy; simp at hy
      obtain rfl : j = xs.length := by omega
      simp at hy
      subst hy
      simp only [Nat.lt_irrefl, if_false, if_true]
      refine ⟨es, fun i u hu => ?_, S.owns_keep hs (hkeep _ fun b o f => ⟨(hF b o f).2, fun e => ?_⟩)⟩
      · rw [← hus, List.getElem?_append_right (by omega), Nat.add_sub_cancel_left]
        exact hu
      · have e1 := (h2 b e).1
        have e2 := (hF b o f).1
        omega
  · by_cases hj : j < xs.length
    · simp only [if_pos hj] at f
      have q := h4 j b o' f
      refine ⟨q.1, by omega, ?_, q.2.2.2⟩
      rcases hv with e | e
      · rw [e]; exact q.2.2.1
      · rw [e]; intro e'; have e2 : (w.alloc o).heap.size = b := by simpa using e'
        have := q.2.1
        omega
    · by_cases hj' : j = xs.length
      · subst hj'
        simp only [Nat.lt_irrefl, if_false, if_true] at f
        have q := hF b o' f
        refine ⟨by omega, by omega, ?_, by omega⟩
        rcases hv with e | e
        · rw [e]; intro e'; have := (h2 b e').1; omega
        · rw [e]; intro e'; have e2 : (w.alloc o).heap.size = b := by simpa using e'
          omega
      · simp only [if_neg hj, if_neg hj'] at f
  · have key : ∀ i, (if i < xs.length then G i else if i = xs.length then F else fun _ _ => False) b o' → (i < xs.length ∧ G i b o') ∨ (i = xs.length ∧ F b o') := fun i f => by
      by_cases hi : i < xs.length
      · simp only [if_pos hi] at f; exact .inl ⟨hi, f⟩
      · by_cases hi' : i = xs.length
        · simp only [if_neg hi, if_pos hi'] at f; exact .inr ⟨hi', f⟩
        · simp only [if_neg hi, if_neg hi'] at f
    rcases key j f with ⟨a1, a2⟩ | ⟨a1, a2⟩ <;> rcases key j' f' with ⟨b1, b2⟩ | ⟨b1, b2⟩
    · exact h5 j j' hne b o' a2 b2
    · have q1 := (h4 j b o' a2).2.1; have q2 := (hF b o' b2).1; omega
    · have q1 := (h4 j' b o' b2).2.1; have q2 := (hF b o' a2).1; omega
    · omega
end
theorem Row.put8 {base g n c : Nat} {w w' : World} {xs ys : List Int} {v' : Value} (h : Row base w (.slice (some ⟨g, 0, none⟩) n c) xs) (hl : xs.length = n) (hB : base ≤ w.heap.size) (o : Obj) (hown : w'.ownsRow base 3 1 v' (n + ys.length) (icells xs ++ icells ys)) (hg : (w.alloc o).grownBy w' (Value.slice (some ⟨g, 0, none⟩) n c).ownBlock) : Row base w' v' (xs ++ ys) ∧ Below base w w' := by
  refine ⟨?_, ((Below.refl base w).alloc hB o).grown hg (by simp; omega) fun k hk => (h.lt k hk).1⟩
  unfold Row
  rw [List.length_append, hl, icells_append]
  exact hown
/-- The cuts of a way have their places ahead of the end. -/
theorem way_room {n : Nat} {l : List Int} (hc : cutsB n l = true) : ∀ t j, t + j + 1 = l.length → l.getD j 0 + ((l.length - j : Nat) : Int) ≤ (n : Int)
  | 0, j, h => by
    have := (cutAt_has (cutsB_has hc j (by omega))).2
    omega
  | t + 1, j, h => by
    have ih := way_room hc t (j + 1) (by omega)
    have h1 := (cutAt_has (cutsB_has hc (j + 1) (by omega))).1
    rw [prevC_succ] at h1
    omega
set_option maxRecDepth 100000 in
set_option maxHeartbeats 3000000 in
theorem specAllCuts_o (w : World) (ops stages : Int) :
    Calls Try.prog 38 #[.int .i64 ops, .int .i64 stages] w fun e w' => ∃ v, e = .returned v ∧ ListL ownRow 38 w.heap.size w'.heap.size w' v (waysI ops stages) ∧ Below w.heap.size w w' := by
  obtain ⟨j0, hj, hy0, hy1, hy2⟩ := info_parts infoRow8
  obtain ⟨i0, hi, hz0, hz1, hz2⟩ := info_parts Try.infoI64
  have hA := (Below.refl w.heap.size w).alloc (Nat.le_refl _) (.cells #[] 38 (0, 0))
  have hE := ListL.empty ownRow 38 w (Nat.le_refl _)
  have hsA : (w.alloc (.cells #[] 38 (0, 0))).heap.size = w.heap.size + 1 := by simp
  have HA := Lib.hid hA
  have HE := Lib.hid hE
  have HSA := Lib.hid hsA
  clear hA hE hsA
  have HI := Lib.hid fun (x lo hi : Int) (w : World) => l1In_any x lo hi w
  by_cases hok : 1 ≤ stages ∧ stages ≤ ops ∧ ops ≤ 8
  · obtain ⟨h1, h2, h3⟩ := hok
    obtain ⟨m, rfl⟩ : ∃ m : Nat, ops = m := ⟨ops.toNat, by omega⟩
    obtain ⟨k, rfl⟩ : ∃ k : Nat, stages = k := ⟨stages.toNat, by omega⟩
    have m8 : m ≤ 8 := by omega
    have k1 : 1 ≤ k := by omega
    have km : k ≤ m := by omega
    have HC1 := Lib.hid fun (w : World) => l1In_any (m : Int) 1 8 w
    have HC2 := Lib.hid fun (w : World) => l1In_any (k : Int) 1 (m : Int) w
    rw [inB_yes (by omega) (by omega)] at HC1 HC2
    clear h1 h2 h3 HI
    go_enter Try.func38, Try.ntmps38
    go_upto_region 2 with fail
    generalize w.alloc (.cells #[] 38 (0, 0)) = wa at HA HE HSA ⊢
    go_wp2_with fail
    refine (HC1.out _).mono ?_
    rintro e w' ⟨rfl, rfl⟩
    go_wp2_with fail
    refine (HC2.out _).mono ?_
    rintro e w' ⟨rfl, rfl⟩
    go_wp2_with fail
    have hr0 := Row.empty wa (.cells #[] 3 (0, 0)) rfl
    have hb0 := (Below.refl wa.heap.size wa).alloc (Nat.le_refl _) (.cells #[] 3 (0, 0))
    go_loopw [6, 7] (fun v i wr => ∃ (j g cap : Nat), 1 ≤ j ∧ j ≤ k ∧ i = .int .i64 j ∧ v = .slice (some ⟨g, 0, none⟩) (j - 1) cap ∧ Row wa.heap.size wr v (firstW (j - 1)) ∧ Below wa.heap.size wa wr) (fun _ i _ => k - (intOf i).toNat)
    case atStart => exact ⟨1, wa.heap.size, 0, Nat.le_refl _, k1, rfl, rfl, hr0, hb0⟩
    case round =>
      obtain ⟨j, g, cap, hj1, hj2, rfl, rfl, hrow, hbw⟩ := hrel
      have hfl : (firstW (j - 1)).length = j - 1 := by unfold firstW; rw [mapK_length]
      have hszw := hbw.size
      obtain ⟨c, hc⟩ : ∃ c, j - 1 = c := ⟨_, rfl⟩
      rw [hc] at hrow hfl ⊢
      by_cases hltj : j < k
      · have hown : wr.ownsRow wa.heap.size 3 1 (.slice (some ⟨g, 0, none⟩) c cap) c (icells (firstW c)) := by
          unfold Row at hrow
          rw [hfl] at hrow
          exact hrow
        have hnx : firstW c ++ [(j : Int)] = firstW (c + 1) := by
          have e : (1 : Int) + (c : Int) = (j : Int) := by omega
          show _ = firstW c ++ [1 + (c : Int)]
          rw [e]
        have HOWN := Lib.hid hown
        have HRW := Lib.hid hrow
        have HBW := Lib.hid hbw
        have HNX := Lib.hid hnx
        have HFL := Lib.hid hfl
        clear hown hrow hbw hnx hfl
        go_wp2_with (at_builtin; refine wpList_append_own _ rfl _ _ 29 rfl wa.heap.size 3 i0 (.int .i64 0) 1 8 Try.underlying29 hi hz0 hz1 hz2 rfl (by decide) _ _ _ rfl (HOWN.out.alloc _) ⟨wr.heap.size, 0, none⟩ 1 1 (icells [(j : Int)]) rfl rfl (cell_num_put _ _ _) (icells_one _) (by unfold maxLen; omega) (by omega) (by simp; omega) ?_; intro v' w3 hown' hgrow _; obtain ⟨g', cap', rfl⟩ := ownsRow_succ hown'; have hput := Row.put8 HRW.out HFL.out hszw _ hown' hgrow; have HP := Lib.hid hput; clear hown' hgrow hput)
        go_wp2_with fail
        go_roundw
        case rel => exact ⟨j + 1, g', cap', by omega, by omega, by go_num, by rw [show j + 1 - 1 = c + 1 by omega], by rw [show j + 1 - 1 = c + 1 by omega, ← HNX.out]; exact HP.out.1, HBW.out.trans HP.out.2⟩
        case measure => simp [intOf]; omega
      · obtain rfl : j = k := by omega
        have hw8 := ways_at k1 km m8
        have hf : firstW c = wayAt m j 0 := by
          have e1 := hw8.first
          rw [wayAt_get k1 km m8 hw8.some, hc] at e1
          exact (Option.some.inj e1).symm
        rw [hf] at hrow hfl
        have hgb := World.ownsRow.lt hrow g rfl
        have hM0 : ListM ownRow 38 w.heap.size wr.heap.size g wr (.slice (some ⟨w.heap.size, 0, none⟩) 0 0) (rowsTo (m : Int) (j : Int) 0) := by
          obtain ⟨us, G, q1, q2, q3, q4, q5⟩ := (HE.out.below hbw (by have := HSA.out; omega)).all
          refine ⟨Nat.le_refl _, hgb.2, us, G, q1, fun b hb => ?_, q3, fun t b o f => ?_, q5⟩
          · have h5 := q2 b hb
            have := HSA.out
            omega
          · have h5 := q4 t b o f
            have := HSA.out
            refine ⟨h5.1, by omega, h5.2.2, by omega⟩
        have HW8 := Lib.hid hw8
        have HR0 := Lib.hid hrow
        have HM0 := Lib.hid hM0
        have HB0 := Lib.hid (HA.out.trans (hbw.mono (by have := HSA.out; omega)))
        have HCC := Lib.hid hc
        have hc7 : c ≤ 7 := by omega
        have hgw : w.heap.size < g := by have := HSA.out; omega
        have hsom := hw8.some
        clear hrow hbw hf hfl hM0 hw8 hgb hszw hr0 hb0
        obtain ⟨wo, rfl⟩ : ∃ y, y = wr := ⟨_, rfl⟩
        go_wp2_with fail
        go_loopw [5] (fun v wr => ∃ (p a' : Nat) (u : Option Addr), p < (ways m j).length ∧ v = .slice u p a' ∧ ListM ownRow 38 w.heap.size wr.heap.size g wr v (rowsTo (m : Int) (j : Int) p) ∧ Row wa.heap.size wr (.slice (some ⟨g, 0, none⟩) c cap) (wayAt m j p) ∧ Below w.heap.size w wr ∧ w.heap.size ≤ wr.heap.size)
          (fun _ wr => leftW g c (.bool true) wr)
        case atStart => exact ⟨0, 0, _, hsom, rfl, HM0.out, HR0.out, HB0.out, HB0.out.size⟩
        case round =>
          obtain ⟨p, a', u, hp, rfl, hM, hrow, hbw, hsw⟩ := hrel
          obtain ⟨q, hq, hqs, hqn, hll, hcc⟩ := way_step k1 km m8 hp
          obtain ⟨L, hL⟩ : ∃ L, wayAt (m : Int) (j : Int) p = L := ⟨_, rfl⟩
          rw [HCC.out] at hq hll
          have hrange := way_range hcc m8
          have hroom := way_room hcc
          rw [hL] at hrow hq hqn hll hrange hroom hcc
          rw [hll] at hrange hroom
          have hgl := World.ownsRow.lt hrow g rfl
          have hin : IntsIn wr.heap.size wr (some ⟨g, 0, none⟩) c L := row_ints8 hrow hll (by omega)
          have hE0 : (wr.alloc (.cells #[] 3 (0, 0))).ownsRow wr.heap.size 3 1 (.slice (some ⟨wr.heap.size, 0, none⟩) 0 0) 0 [] := Row.empty wr _ rfl
          have hfew := (waysI_few (m : Int) (j : Int)).1
          rw [waysI_yes k1 km m8] at hfew
          have hp35 : p < 35 := by omega
          have HM := Lib.hid hM
          have HRW := Lib.hid hrow
          have HBW := Lib.hid hbw
          have HQ := Lib.hid hq
          have HQS := Lib.hid hqs
          have HQN := Lib.hid hqn
          have HLL := Lib.hid hll
          have HRG := Lib.hid hrange
          have HRM := Lib.hid hroom
          have HL := Lib.hid hL
          have HIN := Lib.hid hin
          have HE0 := Lib.hid hE0
          have HPN := Lib.hid hp
          -- what the second append is told
          have HP := Lib.hid fun (w2 : World) (ar : Option Addr) (cr : Nat) (hr : Row wr.heap.size w2 (.slice ar c cr) L) (hb : Below wr.heap.size wr w2) => show ∃ us : List Value, w2.ownsRow w.heap.size 38 1 (.slice u p a') p us ∧ ∀ (w4 : World) (g' cap' : Nat), w4.ownsRow w.heap.size 38 1 (.slice (some ⟨g', 0, none⟩) (p + 1) cap') (p + 1) (us ++ [.slice ar c cr]) → (w2.alloc (.cells #[.slice ar c cr] 38 (0, 0))).grownBy w4 (Value.slice u p a').ownBlock → ((Value.slice u p a').ownBlock = some g' ∨ g' = (w2.alloc (.cells #[.slice ar c cr] 38 (0, 0))).heap.size) →
              ListM ownRow 38 w.heap.size w4.heap.size g w4 (.slice (some ⟨g', 0, none⟩) (p + 1) cap') (rowsTo (m : Int) (j : Int) (p + 1)) ∧ Below w.heap.size w2 w4 ∧ Row wa.heap.size w4 (.slice (some ⟨g, 0, none⟩) c cap) L by
            obtain ⟨-, hgh, us, G, q1, q2, q3, q4, q5⟩ := hM.same (w' := w2) (hi' := wr.heap.size) (fun b hb1 hb2 hb3 => hb.block b hb2) (Nat.le_refl _) hb.size
            rw [rowsTo_length] at q1
            refine ⟨us, q1, fun w4 g' cap' ho hgr hat => ?_⟩
            have hput := ListM.put (S := ownRow) (T := 38) (lo := w.heap.size) (hi := wr.heap.size) (g := g) (w := w2) (w' := w4) (v := .slice u p a') (v' := .slice (some ⟨g', 0, none⟩) (p + 1) cap') (xs := rowsTo (m : Int) (j : Int) p) (o := (.cells #[.slice ar c cr] 38 (0, 0))) (x := L) (F := FromB wr.heap.size w2.heap.size)
              hsw hgl.2 (by rw [rowsTo_length]; exact q1) q2 hb.size q3 q4 q5 hr.ownRow (fun b o f => f) rfl (by rw [rowsTo_length]; exact ho) hgr (by
                rcases hat with e | e
                · exact .inl e.symm
                · exact .inr (congrArg some e))
            rw [rowsTo_succ, hL]
            refine ⟨hput.1, hput.2, ?_⟩
            have hk1 := (hrow.below hb).kept (World.grownBy_alloc w2 (.cells #[.slice ar c cr] 38 (0, 0)) none) (.inr (by simp [Value.ownBlock]))
            refine hk1.kept hgr (.inr fun e => ?_)
            have e1 : (Value.slice u p a').ownBlock = some g := e.symm
            exact (q2 g e1).2 rfl
          clear hM hrow hbw hq hqs hqn hll hrange hroom hL hin hE0 hcc hfew hp
          go_wp2_with (first
            | (at_builtin; refine wpList_append_own _ rfl _ _ 29 rfl wr.heap.size 3 i0 (.int .i64 0) 1 8 Try.underlying29 hi hz0 hz1 hz2 rfl (by decide) _ _ _ rfl HE0.out ⟨g, 0, none⟩ c cap (icells L) rfl (by rw [icells_length, HLL.out, Nat.mul_one]) (ints_news (HIN.out.below ((Below.refl wr.heap.size wr).alloc (Nat.le_refl _) _) (by omega))) (icells_one _) (by unfold maxLen; omega) (by omega) (by simp) ?_; intro v2 w2 hown hgrow _; have hr := row_new hown; have hb := ((Below.refl wr.heap.size wr).alloc (Nat.le_refl _) (.cells #[] 3 (0, 0))).grown hgrow (by simp) (fun k e => by cases e; exact Nat.le_refl _); obtain ⟨ar, cr, rfl, -⟩ := hr.form; rw [HLL.out] at hr ⊢; obtain ⟨us, hous, hP2⟩ := HP.out w2 ar cr hr hb; have HOU := Lib.hid hous; have HP2 := Lib.hid hP2; have HB2 := Lib.hid hb; have hs2 := hb.size; clear hown hgrow hr hb hous hP2)
            | (at_builtin; refine wpList_append_lies _ rfl _ _ 34 rfl w.heap.size 38 j0 (.agg #[.slice none 0 0]) 1 24 Try.underlying34 hj hy0 hy1 hy2 rfl (by decide) _ _ _ rfl (HOU.out.alloc _) ⟨w2.heap.size, 0, none⟩ 1 1 [.slice ar c cr] rfl rfl (cell_one_new _ _ _) (slices_one _ _ _) (by decide) (by unfold maxLen; omega) (by omega) (by simp; omega) _ rfl ?_; intro g4 cap4 w4 ho4 hg4 hat4 hlt4; obtain ⟨hl4, hb4, hr4⟩ := HP2.out w4 g4 cap4 ho4 hg4 hat4; have HL4 := Lib.hid hl4; have HB4 := Lib.hid hb4; have HR4 := Lib.hid hr4; clear ho4 hg4 hat4 hl4 hb4 hr4))
          obtain ⟨w4', rfl⟩ : ∃ y, y = w4 := ⟨_, rfl⟩
          have hs4 := HB4.out.size
          have HBW4 := Lib.hid (HBW.out.trans ((HB2.out.mono hsw).trans HB4.out))
          have hown4 : w4'.ownsRow wa.heap.size 3 1 (.slice (some ⟨g, 0, none⟩) c cap) c (icells L) := by
            have h1 := HR4.out
            unfold Row at h1
            rw [HLL.out] at h1
            exact h1
          have HO4 := Lib.hid hown4
          clear hown4
          go_loopw [8] (fun kk wx => ∃ e : Nat, e ≤ c ∧ kk = .int .i64 ((e : Int) - 1) ∧ wx = w4' ∧ Hid (∀ i, e ≤ i → i < c → stuckB m L i = true)) (fun kk _ => (intOf kk + 1).toNat)
          case atStart => exact ⟨c, Nat.le_refl _, rfl, rfl, Lib.hid fun i h1 h2 => by omega⟩
          case round =>
            obtain ⟨e, hec, rfl, rfl, hst⟩ := hrel
            cases e with
            | zero =>
              have hqn' := next_none HQ.out fun i hi => hst.out i (Nat.zero_le _) hi
              have hend : (ways m j).length = p + 1 := by
                have h1 := HQS.out
                rw [hqn'] at h1
                have h2 : ¬ p + 1 < (ways m j).length := of_decide_eq_false h1.symm
                have := HPN.out
                omega
              have hall : rowsTo (m : Int) (j : Int) (p + 1) = waysI (m : Int) (j : Int) := by
                rw [← hend, ← waysI_yes k1 km m8]
                exact rowsTo_all _ _
              have HALL := Lib.hid hall
              have hz : ((0 : Nat) : Int) - 1 = -1 := rfl
              rw [hz]
              clear hend hall hz hqn'
              go_wp2_with fail
              go_ret
              refine ⟨_, rfl, ?_, HBW4.out⟩
              rw [← HALL.out]
              exact HL4.out.toL
            | succ i =>
              have hii : ((i + 1 : Nat) : Int) - 1 = (i : Int) := by omega
              rw [hii]
              obtain ⟨V, hV⟩ : ∃ V, L.getD i 0 = V := ⟨_, rfl⟩
              have hvr := HRG.out i (by omega)
              have hrm := HRM.out (c - 1 - i) i (by omega)
              rw [hV] at hvr hrm
              have hci : ((c - i : Nat) : Int) = (c : Int) - (i : Int) := by omega
              rw [hci] at hrm
              have hcell : wr.cell? ⟨g, i, none⟩ = some (.int .i64 V) := by
                rw [World.ownsRow.cellAt HO4.out i (by omega), icells_get L i (by rw [HLL.out]; omega), hV]
              obtain ⟨M2, hM2⟩ : ∃ M2, (m : Int) - (c : Int) + (i : Int) = M2 := ⟨_, rfl⟩
              by_cases hs : V = M2
              · have hsd : decide (V = M2) = true := decide_eq_true hs
                have hsb : (V == M2) = true := by simpa using hs
                have HST : Hid (stuckB m L i = true) := Lib.hid (stuck_yes HLL.out hV (by rw [hci]; omega))
                clear hV hvr hrm hs hci
                go_wp2_with fail
                go_roundw
                case rel =>
                  refine ⟨i, by omega, by first | rfl | trivial, by first | rfl | trivial, Lib.hid fun t h1 h2 => ?_⟩
                  by_cases et : t = i
                  · rw [et]; exact HST.out
                  · exact hst.out t (by omega) h2
                case measure => simp [intOf] <;> omega
              · have hsd : decide (V = M2) = false := decide_eq_false hs
                have hsb : (V == M2) = false := by simpa using hs
                have hns : stuckB m L i = false := stuck_no HLL.out hV (by rw [hci]; omega)
                have hqs' := next_some HQ.out (show i < c by omega) hns fun t h1 h2 => hst.out t (by omega) h2
                have hlt1 : p + 1 < (ways m j).length := by
                  have h1 := HQS.out
                  rw [hqs'] at h1
                  exact of_decide_eq_true h1.symm
                have hnext : nextAt L i = wayAt (m : Int) (j : Int) (p + 1) := by
                  have h1 := HQN.out hlt1
                  rw [hqs'] at h1
                  exact h1
                have HNXT := Lib.hid hnext
                have HLT := Lib.hid hlt1
                have HV := Lib.hid hV
                have hfr := World.ownsRow.frozenAt HO4.out i
                have hst1 := World.ownsRow.stored HO4.out i (.int .i64 (V + 1))
                rw [icells_set] at hst1
                have hr1 : RowTurned wa.heap.size g c cap (riseK L i (V + 1) 1) wr (wr.setCell ⟨g, i, none⟩ (.int .i64 (V + 1))) := ⟨by
                  unfold Row
                  rw [riseK_length, HLL.out]
                  have e1 : riseK L i (V + 1) 1 = L.set i (V + 1) := by
                    show L.set (i + 0) (V + 1 + ((0 : Nat) : Int)) = _
                    simp
                  rw [e1]
                  exact hst1.1, hst1.2⟩
                have HR1 := Lib.hid hr1
                clear hst1 hr1 hV hnext hlt1 hqs' hns hrm hs hci hst
                obtain ⟨w6, rfl⟩ : ∃ y, y = wr := ⟨_, rfl⟩
                go_wp2_with fail
                generalize w6.setCell ⟨g, i, none⟩ (.int .i64 (V + 1)) = w7 at HR1 ⊢
                go_loopw [9] (fun kk wx => ∃ t : Nat, i + 1 + t ≤ c ∧ kk = .int .i64 ((i + 1 + t : Nat) : Int) ∧ Hid (RowTurned wa.heap.size g c cap (riseK L i (V + 1) (t + 1)) w6 wx)) (fun kk _ => c - (intOf kk).toNat)
                case atStart => exact ⟨0, by omega, by simp, HR1⟩
                case round =>
                  obtain ⟨t, htc, rfl, hrt⟩ := hrel
                  obtain ⟨w8, rfl⟩ : ∃ y, y = wr := ⟨_, rfl⟩
                  have hrl : (riseK L i (V + 1) (t + 1)).length = c := by rw [riseK_length]; exact HLL.out
                  have hown8 : w8.ownsRow wa.heap.size 3 1 (.slice (some ⟨g, 0, none⟩) c cap) c (icells (riseK L i (V + 1) (t + 1))) := by
                    have h1 := hrt.out.1
                    unfold Row at h1
                    rw [hrl] at h1
                    exact h1
                  obtain ⟨K, hK⟩ : ∃ K, i + 1 + t = K := ⟨_, rfl⟩
                  obtain ⟨J, hJ⟩ : ∃ J, i + t = J := ⟨_, rfl⟩
                  have hKJ : (K : Int) - 1 = (J : Int) := by omega
                  have hJK : K = J + 1 := by omega
                  rw [hK] at htc ⊢
                  by_cases hlt8 : K < c
                  · have hX := riseK_get L i (V + 1) (t + 1) J (by rw [HLL.out]; omega)
                    rw [if_pos (by omega), show J - i = t by omega] at hX
                    obtain ⟨X, hXe⟩ : ∃ X, V + 1 + (t : Int) = X := ⟨_, rfl⟩
                    rw [hXe] at hX
                    have hc8 : w8.cell? ⟨g, J, none⟩ = some (.int .i64 X) := by
                      rw [World.ownsRow.cellAt hown8 J (by omega), icells_get _ J (by rw [hrl]; omega), hX]
                    have hfr8 := World.ownsRow.frozenAt hown8 K
                    obtain ⟨y, hy⟩ : ∃ y, w8.cell? ⟨g, K, none⟩ = some y := by
                      rw [World.ownsRow.cellAt hown8 K (by omega)]
                      exact ⟨_, List.getElem?_eq_getElem (by rw [icells_length, hrl]; omega)⟩
                    have hst8 := World.ownsRow.stored hown8 K (.int .i64 (X + 1))
                    rw [icells_set] at hst8
                    have hnx : RowTurned wa.heap.size g c cap (riseK L i (V + 1) (t + 1 + 1)) w6 (w8.setCell ⟨g, K, none⟩ (.int .i64 (X + 1))) := ⟨by
                      unfold Row
                      rw [riseK_length, HLL.out]
                      have e1 : riseK L i (V + 1) (t + 1 + 1) = (riseK L i (V + 1) (t + 1)).set K (X + 1) := by
                        show (riseK L i (V + 1) (t + 1)).set (i + (t + 1)) (V + 1 + ((t + 1 : Nat) : Int)) = _
                        rw [show i + (t + 1) = K by omega, show V + 1 + ((t + 1 : Nat) : Int) = X + 1 by omega]
                      rw [e1]
                      exact hst8.1, grownBy_trans' hrt.out.2 hst8.2⟩
                    have HNX8 := Lib.hid hnx
                    have hX9 : 0 ≤ X ∧ X ≤ 20 := by omega
                    have HK := Lib.hid hK
                    clear hst8 hnx hX hXe hrl hown8 hrt hK hJ hJK
                    go_wp2_with fail
                    go_roundw
                    case rel => exact ⟨t + 1, by have := HK.out; omega, by have := HK.out; rw [show i + 1 + (t + 1) = K + 1 by omega]; go_num, HNX8⟩
                    case measure => simp [intOf]; omega
                  · have hKc : K = c := by omega
                    have hrn : riseK L i (V + 1) (t + 1) = wayAt (m : Int) (j : Int) (p + 1) := by
                      rw [← HNXT.out, ← rise_next HLL.out (show i < c by omega), HV.out, show c - i = t + 1 by omega]
                    have hrt8 := hrt.out
                    rw [hrn] at hrt8
                    have HRT8 := Lib.hid hrt8
                    clear hown8 hrl hrt hrn hrt8 hK hJ hKJ hJK
                    go_wp2_with fail
                    go_roundw
                    case rel =>
                      have hsz8 := HRT8.out.2.size
                      refine ⟨p + 1, cap4, some ⟨g4, 0, none⟩, HLT.out, rfl, HL4.out.same (fun b h1 h2 h3 => HRT8.out.2.block b (Nat.lt_of_lt_of_le h2 (Nat.le_refl _)) fun e => h3 (by have := Option.some.inj e; exact this)) hsz8 (Nat.le_refl _), HRT8.out.1, ?_, ?_⟩
                      · exact HBW4.out.grown HRT8.out.2 HBW4.out.size fun b e => by cases e; omega
                      · exact Nat.le_trans HBW4.out.size hsz8
                    case measure =>
                      have hrk := ranked_in k1 km m8
                      have hg0 := wayAt_get k1 km m8 HPN.out
                      have hg1 := wayAt_get k1 km m8 HLT.out
                      have ht := ranked_top hrk hg0
                      have ht1 := ranked_top hrk hg1
                      have hst := ranked_step hrk hg0 hg1
                      rw [HL.out] at ht hst
                      have e0 := row_read HRW.out HLL.out
                      have hl1 : (wayAt (m : Int) (j : Int) (p + 1)).length = c := by rw [(HW8.out.len _ _ hg1).1, HCC.out]
                      have e2 := row_read HRT8.out.1 hl1
                      have e3 : ∀ (wy : World), leftW g c (.bool true) wy = 5000001 - rankW (readK wy g c) := fun _ => rfl
                      rw [e3, e3, e0, e2]
                      omega
  · have hN : waysI ops stages = [] := waysI_no hok
    rw [hN]
    have HEX := Lib.hid HE.out
    go_enter Try.func38, Try.ntmps38
    go_upto_region 2 with fail
    generalize w.alloc (.cells #[] 38 (0, 0)) = wa at HA HE HSA HEX ⊢
    have hend : ∃ v : Value, (Ending.returned (.slice (some ⟨w.heap.size, 0, none⟩) 0 0)) = .returned v ∧ ListL ownRow 38 w.heap.size wa.heap.size wa v [] ∧ Below w.heap.size w wa := ⟨_, rfl, by have h1 := HE.out; rw [HSA.out]; exact h1, HA.out⟩
    have HEND := Lib.hid hend
    clear hend
    cases h1 : inB 1 8 ops with
    | false =>
      have hI := HI.out ops 1 8
      rw [h1] at hI
      have HC1 := Lib.hid hI
      clear hI h1
      go_wp2_with fail
      refine (HC1.out _).mono ?_
      rintro e w' ⟨rfl, rfl⟩
      go_wp2_with fail
      go_ret
      exact HEND.out
    | true =>
      have h2 : inB 1 ops stages = false := by
        by_cases h3 : inB 1 ops stages = true
        · have q1 := inB_has h1
          have q2 := inB_has h3
          exact absurd ⟨q2.1, q2.2, q1.2⟩ hok
        · simpa using h3
      have hI := HI.out ops 1 8
      rw [h1] at hI
      have HC1 := Lib.hid hI
      have hI2 := HI.out stages 1 ops
      rw [h2] at hI2
      have HC2 := Lib.hid hI2
      clear hI h1 hI2 h2
      go_wp2_with fail
      refine (HC1.out _).mono ?_
      rintro e w' ⟨rfl, rfl⟩
      go_wp2_with fail
      refine (HC2.out _).mono ?_
      rintro e w' ⟨rfl, rfl⟩
      go_wp2_with fail
      go_ret
      exact HEND.out
end Go.Proofs.Ytkmcfbopilieeaa
