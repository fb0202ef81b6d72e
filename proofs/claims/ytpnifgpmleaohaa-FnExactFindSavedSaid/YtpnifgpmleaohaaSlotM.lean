/-
  A map that tells where the k-th thing of each number stands, as data: filled one by one, looked up, one taken out. Of no program.
-/
import Derived.Maps.Views
import Derived.Maps.OwnSet
import Derived.MapViews
namespace Go.Proofs.Ytpnifgpmleaohaa
open Go.RowKit Go.Maps Go.ChangeMaps Go.WideShapes
set_option linter.unusedVariables false

/-- A number of 64 bits. -/
abbrev In64 (x : Int) : Prop := -9223372036854775808 ≤ x ∧ x ≤ 9223372036854775807
theorem In64.wf {x : Int} (h : In64 x) : (Lit.int .i64 x).wf = true := by
  unfold Lit.wf
  simp only [Bool.and_eq_true, decide_eq_true_eq]
  exact h
abbrev placeD {H : Type} (k : Nat) : DataW H := .lit (.int .i64 (k : Int))
/-- Each key a key; no two places have one. -/
structure SlotKeys (L : Int → Int → Lit) : Prop where
  key : ∀ {m a : Int}, In64 m → In64 a → WideAt.IsKeyLit (L m a)
  inj : ∀ {m a m' a' : Int}, In64 m → In64 a → In64 m' → In64 a' → L m a = L m' a' → m = m' ∧ a = a'
/-- The map as it is behind the things whose numbers are ms. -/
structure Placed {H : Type} (L : Int → Int → Lit) (ms : List Int) (D : DataW H) : Prop where
  at_ : ∀ (i : Nat) (m : Int), ms[i]? = some m → ∀ z, D.atKey (L m ((ms.take i).count m : Nat)) z = placeD i
  lt : ∀ (m : Int) (a : Nat), In64 m → In64 (a : Int) → has D (L m (a : Int)) = true → a < ms.count m
  vals : ∃ es, D = .map es ∧ (es.map (·.2)).Perm ((List.range ms.length).map placeD)
theorem count_split {ms : List Int} {i : Nat} {m : Int} (h : ms[i]? = some m) : (ms.take i).count m < ms.count m := by
  obtain ⟨hi, he⟩ := List.getElem?_eq_some_iff.1 h
  have e : ms = ms.take i ++ m :: ms.drop (i + 1) := by
    rw [← he, List.getElem_cons_drop, List.take_append_drop]
  have h2 : ms.count m = (ms.take i).count m + (m :: ms.drop (i + 1)).count m := by
    conv => lhs; rw [e]
    rw [List.count_append]
  rw [h2, List.count_cons_self]
  omega
theorem Placed.empty {H : Type} (L : Int → Int → Lit) : Placed (H := H) L [] (.map []) where
  at_ := fun i m h => by simp at h
  lt := fun m a _ _ h => by simp [has] at h
  vals := ⟨[], rfl, by simp⟩
theorem in64_count (ms : List Int) (m : Int) (hl : ms.length ≤ 1048576) : In64 ((ms.count m : Nat) : Int) := by
  have := List.count_le_length (a := m) (l := ms)
  constructor <;> omega
theorem Placed.step {H : Type} {L : Int → Int → Lit} {ms : List Int} {D : DataW H} (h : Placed L ms D) (K : SlotKeys L) (hw : ∀ x ∈ ms, In64 x) {m : Int} (hm : In64 m) (hl : ms.length ≤ 1048576) :
    Placed L (ms ++ [m]) (D.put (L m (ms.count m : Nat)) (placeD ms.length)) := by
  have hM : IsMap D := by obtain ⟨es, e, _⟩ := h.vals; exact ⟨es, e⟩
  have hk := K.key hm (in64_count ms m hl)
  have hnew : has D (L m (ms.count m : Nat)) = false := by
    cases hh : has D (L m (ms.count m : Nat))
    · rfl
    · exact absurd (h.lt m _ hm (in64_count ms m hl) hh) (Nat.lt_irrefl _)
  refine ⟨fun i x hx z => ?_, fun x a hx ha hh => ?_, ?_⟩
  · by_cases hi : i < ms.length
    · rw [List.getElem?_append_left hi] at hx
      rw [List.take_append_of_le_length (Nat.le_of_lt hi)]
      have hlt := count_split hx
      rw [atKey_put_other]
      · exact h.at_ i x hx z
      · intro e
        have hi2 := in64_count (ms.take i) x (by rw [List.length_take]; omega)
        obtain ⟨rfl, e2⟩ := K.inj (hw x (List.mem_of_getElem? hx)) hi2 hm (in64_count ms m hl) e
        omega
    · have hil : i = ms.length := by
        have := (List.getElem?_eq_some_iff.1 hx).1
        simp at this
        omega
      subst hil
      rw [List.getElem?_append_right (Nat.le_refl _), Nat.sub_self] at hx
      cases hx
      rw [List.take_append_of_le_length (Nat.le_refl _), List.take_length]
      exact atKey_put_same hM hk _ _
  · by_cases e : L x (a : Int) = L m (ms.count m : Nat)
    · obtain ⟨rfl, e2⟩ := K.inj hx ha hm (in64_count ms m hl) e
      rw [List.count_append, List.count_singleton_self]
      omega
    · rw [has_put_other e] at hh
      have := h.lt x a hx ha hh
      rw [List.count_append]
      omega
  · obtain ⟨es, rfl, hp⟩ := h.vals
    refine ⟨_, DataW.put_eq _ _ _, ?_⟩
    have hf : es.filter (notKey (L m (ms.count m : Nat))) = es := by
      rw [List.filter_eq_self]
      intro p hp'
      rw [has_eq, List.any_eq_false] at hnew
      have := hnew p hp'
      simpa [notKey] using this
    unfold putKey
    rw [hf]
    have h1 := ((insert_perm (L m (ms.count m : Nat), placeD (H := H) ms.length) es).map (·.2))
    refine h1.trans ?_
    rw [List.length_append, List.length_singleton, List.range_succ, List.map_append, List.map_cons]
    exact (List.Perm.cons _ hp).trans (List.perm_append_singleton _ _).symm
/-- Looked up: the first one of number m. -/
theorem Placed.first {H : Type} {L : Int → Int → Lit} {ms : List Int} {D : DataW H} (h : Placed L ms D) {k : Nat} {m : Int} (hk : ms[k]? = some m) (h0 : ∀ j, j < k → ms[j]? ≠ some m) :
    (∀ z, D.atKey (L m 0) z = placeD k) ∧ has D (L m 0) = true := by
  have hc : (ms.take k).count m = 0 := by
    rw [List.count_eq_zero]
    intro hx
    obtain ⟨j, hj⟩ := List.mem_iff_getElem?.1 hx
    have hjl := (List.getElem?_eq_some_iff.1 hj).1
    rw [List.length_take] at hjl
    rw [List.getElem?_take] at hj
    split at hj
    · exact h0 j (by omega) hj
    · cases hj
  have h1 := h.at_ k m hk
  rw [hc] at h1
  exact ⟨h1, has_true_of_atKey h1⟩
theorem Placed.lacks {H : Type} {L : Int → Int → Lit} {ms : List Int} {D : DataW H} (h : Placed L ms D) {m : Int} (hm : In64 m) (h0 : m ∉ ms) : has D (L m 0) = false := by
  cases hh : has D (L m 0)
  · rfl
  · have := h.lt m 0 hm ⟨by omega, by omega⟩ hh
    rw [List.count_eq_zero_of_not_mem h0] at this
    exact absurd this (Nat.lt_irrefl _)
theorem cons_eraseIdx_perm {α : Type} : ∀ {l : List α} {k : Nat} (h : k < l.length), (l[k] :: l.eraseIdx k).Perm l
  | [], k, h => absurd h (Nat.not_lt_zero _)
  | x :: r, 0, _ => by simp
  | x :: r, k + 1, h => by
    have hr : k < r.length := by simpa using h
    have := cons_eraseIdx_perm hr
    rw [List.eraseIdx_cons_succ, List.getElem_cons_succ]
    exact (List.Perm.swap _ _ _).trans (this.cons x)
/-- One taken out: the places of the others. -/
theorem Placed.del {H : Type} {L : Int → Int → Lit} {ms : List Int} {D : DataW H} (h : Placed L ms D) (ht : Tidy D) (K : SlotKeys L) {k : Nat} {m : Int} (hm : In64 m) (hk : ms[k]? = some m) (h0 : ∀ j, j < k → ms[j]? ≠ some m) :
    ∃ es, D.del (L m 0) = .map es ∧ (es.map (·.2)).Perm (((List.range ms.length).eraseIdx k).map placeD) := by
  obtain ⟨hat, hhas⟩ := h.first hk h0
  have hkl := K.key hm (a := 0) ⟨by omega, by omega⟩
  obtain ⟨es, rfl, hp⟩ := h.vals
  obtain ⟨es', e', hd⟩ := ht
  cases e'
  refine ⟨_, DataW.del_eq _ _, ?_⟩
  rw [has_eq, List.any_eq_true] at hhas
  obtain ⟨p, hpm, hps⟩ := hhas
  have hpk := WideAt.sameKey_eq hps
  have hperm : es.Perm (p :: delKey (L m 0) es) := by
    unfold delKey
    clear hat hp h
    induction es with
    | nil => cases hpm
    | cons x r ih =>
      obtain ⟨d1, d2⟩ := List.pairwise_cons.1 hd
      rcases List.mem_cons.1 hpm with rfl | hr
      · have e1 : notKey (L m 0) p = false := by unfold notKey; rw [hps]; rfl
        have e2 : r.filter (notKey (L m 0)) = r := by
          rw [List.filter_eq_self]
          intro q hq
          have := d1 q hq
          unfold notKey
          rw [sameKey_ne (fun e => this (hpk.trans e.symm))]
          rfl
        rw [List.filter_cons_of_neg (by rw [e1]; decide), e2]
      · have hne := d1 p hr
        have e1 : notKey (L m 0) x = true := by
          unfold notKey
          rw [sameKey_ne (fun e => hne (e.trans hpk.symm))]
          rfl
        rw [List.filter_cons_of_pos e1]
        exact (List.Perm.cons _ (ih d2 hr)).trans (List.Perm.swap _ _ _)
  have hp2 : p.2 = placeD k := by
    have : (match es.find? (fun q => q.1.sameKey (L m 0)) with | some p => p.2 | none => DataW.nil) = placeD k := hat .nil
    cases hf : es.find? (fun q => q.1.sameKey (L m 0)) with
    | none => exact absurd hps (by have := List.find?_eq_none.1 hf p hpm; simpa using this)
    | some q =>
      rw [hf] at this
      have hq1 := List.mem_of_find?_eq_some hf
      have hq2 := List.find?_some hf
      have hqk := WideAt.sameKey_eq hq2
      have : q = p := by
        rcases List.mem_iff_getElem?.1 hq1 with ⟨i, hi⟩
        rcases List.mem_iff_getElem?.1 hpm with ⟨j, hj⟩
        obtain ⟨hi1, hi2⟩ := List.getElem?_eq_some_iff.1 hi
        obtain ⟨hj1, hj2⟩ := List.getElem?_eq_some_iff.1 hj
        rcases Nat.lt_trichotomy i j with hl | rfl | hl
        · exact absurd (by rw [hi2, hj2, hqk, hpk]) (List.pairwise_iff_getElem.1 hd i j hi1 hj1 hl)
        · rw [← hi2, ← hj2]
        · exact absurd (by rw [hi2, hj2, hqk, hpk]) (List.pairwise_iff_getElem.1 hd j i hj1 hi1 hl)
      subst this
      assumption
  have h1 : (placeD k :: (delKey (L m 0) es).map (·.2)).Perm ((List.range ms.length).map placeD) := by
    have := (hperm.map (·.2)).symm.trans hp
    rwa [List.map_cons, hp2] at this
  have hkl2 : k < (List.range ms.length).length := by
    rw [List.length_range]
    exact (List.getElem?_eq_some_iff.1 hk).1
  have h2 : ((List.range ms.length).map (placeD (H := H))).Perm (placeD k :: ((List.range ms.length).eraseIdx k).map placeD) := by
    have h3 := (cons_eraseIdx_perm hkl2).symm
    have h4 := h3.map (placeD (H := H))
    rwa [List.map_cons, List.getElem_range] at h4
  exact (h1.trans h2).cons_inv
/-- In order. -/
theorem sorted_places {k n : Nat} {ss : List Int} (h : ss.Perm (((List.range n).eraseIdx k).map fun i : Nat => (i : Int))) : ss.mergeSort (fun x y => decide (x ≤ y)) = ((List.range n).eraseIdx k).map fun i : Nat => (i : Int) := by
  have tr : ∀ a b c : Int, decide (a ≤ b) = true → decide (b ≤ c) = true → decide (a ≤ c) = true := fun a b c h1 h2 => by simp only [decide_eq_true_eq] at *; omega
  have to : ∀ a b : Int, (decide (a ≤ b) || decide (b ≤ a)) = true := fun a b => by simp only [Bool.or_eq_true, decide_eq_true_eq]; omega
  refine List.Perm.eq_of_pairwise (le := fun a b => decide (a ≤ b) = true) (fun a b _ _ h1 h2 => ?_) (List.pairwise_mergeSort tr to ss) ?_ ((List.mergeSort_perm ss _).trans h)
  · simp only [decide_eq_true_eq] at h1 h2
    omega
  · rw [List.pairwise_map]
    refine ((List.pairwise_lt_range (n := n)).sublist (List.eraseIdx_sublist _ _)).imp fun h => ?_
    simp only [decide_eq_true_eq]
    omega
theorem places_get {k n j : Nat} (hk : k < n) (hj : j < n - 1) : (((List.range n).eraseIdx k).map fun i : Nat => (i : Int))[j]? = some ((if j < k then j else j + 1 : Nat) : Int) := by
  rw [List.getElem?_map, List.getElem?_eraseIdx]
  split
  · rw [List.getElem?_range (by omega)]
    rfl
  · rw [List.getElem?_range (by omega)]
    rfl
end Go.Proofs.Ytpnifgpmleaohaa
