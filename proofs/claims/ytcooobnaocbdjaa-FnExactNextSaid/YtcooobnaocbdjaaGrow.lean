/-
  Lists of data with depth that a call makes place by place, by append or by index: owned in the end. Of no program.
-/
import Derived.Test.YtcooobnaocbdjaaOwn
import Derived.Maps.AppendAt
import Derived.Laws.OwnMore
namespace Go.Proofs.Ytcooobnaocbdjaa
open Go.RowKit
set_option linter.unusedVariables false

/-- A list of a call's own, its elements' cells too, all of it in blocks from lo on, below hi. -/
structure ListL {α : Type} (S : Owned α) (T : TypeId) (lo hi : Nat) (w : World) (v : Value) (xs : List α) : Prop where
  top : hi ≤ w.heap.size
  all : ∃ (us : List Value) (G : Nat → Foot), w.ownsRow lo T S.size v xs.length us ∧ (∀ g, v.ownBlock = some g → g < hi) ∧
    (∀ j x, xs[j]? = some x → ∃ es, (∀ i u, es[i]? = some u → us[j * S.size + i]? = some u) ∧ S.owns (G j) w es x) ∧
    (∀ j b o, G j b o → lo ≤ b ∧ b < hi ∧ v.ownBlock ≠ some b) ∧ ∀ j j', j ≠ j' → Apart (G j) (G j')
variable {α : Type} {S : Owned α} {T : TypeId} {lo hi : Nat} {w w' : World} {v v' : Value} {xs : List α}
theorem ListL.nil (S : Owned α) (T : TypeId) {lo hi : Nat} {w : World} (h : hi ≤ w.heap.size) : ListL S T lo hi w (.slice none 0 0) [] :=
  ⟨h, [], fun _ _ _ => False, World.ownsRow_nil _ _ _ _, fun g hg => by simp [Value.ownBlock] at hg, fun j x hx => by simp at hx, fun j b o f => f.elim, fun j j' _ b o f => f.elim⟩
theorem ListL.empty (S : Owned α) (T : TypeId) {lo : Nat} (w : World) (h : lo ≤ w.heap.size) : ListL S T lo (w.heap.size + 1) (w.alloc (.cells #[] T (0, 0))) (.slice (some ⟨w.heap.size, 0, none⟩) 0 0) ([] : List α) :=
  ⟨by simp, [], fun _ _ _ => False, ⟨by simp, .inr ⟨w.heap.size, 0, #[], rfl, h, heap_alloc_new w _, Nat.le_refl _, Nat.zero_le _, by simp, by simp⟩⟩, fun g hg => by simp [Value.ownBlock] at hg; omega, fun j x hx => by simp at hx, fun j b o f => f.elim, fun j j' _ b o f => f.elim⟩
theorem ListL.below {B : Nat} (h : ListL S T lo hi w v xs) (hb : Below B w w') (hB : hi ≤ B) : ListL S T lo hi w' v xs := by
  obtain ⟨us, G, h1, h2, h3, h4, h5⟩ := h.all
  refine ⟨Nat.le_trans h.top hb.size, us, G, ⟨h1.1, h1.2.imp id ?_⟩, h2, fun j x hx => ?_, h4, h5⟩
  · rintro ⟨g, cap, cur, rfl, e1, e2, e3⟩
    exact ⟨g, cap, cur, rfl, e1, (hb.block g (Nat.lt_of_lt_of_le (h2 g rfl) hB)).trans e2, e3⟩
  · obtain ⟨es, q1, q2⟩ := h3 j x hx
    exact ⟨es, q1, S.owns_keep q2 (.of_below hb fun b o f => Nat.lt_of_lt_of_le (h4 j b o f).2.1 hB)⟩
theorem ListL.wide {lo' hi' : Nat} (h : ListL S T lo hi w v xs) (hl : lo' ≤ lo) (hh : hi ≤ hi') (ht : hi' ≤ w.heap.size) : ListL S T lo' hi' w v xs := by
  obtain ⟨us, G, h1, h2, h3, h4, h5⟩ := h.all
  exact ⟨ht, us, G, World.ownsRow.mono h1 hl, fun g hg => Nat.lt_of_lt_of_le (h2 g hg) hh, h3, fun j b o f => ⟨Nat.le_trans hl (h4 j b o f).1, Nat.lt_of_lt_of_le (h4 j b o f).2.1 hh, (h4 j b o f).2.2⟩, h5⟩
/-- One element more. -/
theorem ListL.put {es : List Value} {x : α} {F : Foot} {o : Obj} {us : List Value} {G : Nat → Foot} (hlo : lo ≤ hi)
    (h1 : w.ownsRow lo T S.size v xs.length us) (h2 : ∀ g, v.ownBlock = some g → g < hi) (hh : hi ≤ w.heap.size) (h3 : ∀ j x, xs[j]? = some x → ∃ es, (∀ i u, es[i]? = some u → us[j * S.size + i]? = some u) ∧ S.owns (G j) w es x)
    (h4 : ∀ j b o, G j b o → lo ≤ b ∧ b < hi ∧ v.ownBlock ≠ some b) (h5 : ∀ j j', j ≠ j' → Apart (G j) (G j'))
    (hs : S.owns F w es x) (hF : ∀ b o, F b o → hi ≤ b ∧ b < w.heap.size) (hl : es.length = S.size)
    (hown : w'.ownsRow lo T S.size v' (xs.length + 1) (us ++ es)) (hg : (w.alloc o).grownBy w' v.ownBlock) (hv : v'.ownBlock = v.ownBlock ∨ v'.ownBlock = some (w.alloc o).heap.size) :
    ListL S T lo w'.heap.size w' v' (xs ++ [x]) ∧ Below lo w w' := by
  have hsz : w.heap.size < (w.alloc o).heap.size := by simp
  have hus : us.length = xs.length * S.size := h1.1
  have hbe : Below lo w w' := ((Below.refl lo w).alloc (Nat.le_trans hlo hh) o).grown hg (by omega) (fun k hk => (World.ownsRow.lt h1 k hk).1)
  have hkeep : ∀ (F : Foot), (∀ b o, F b o → b < w.heap.size ∧ v.ownBlock ≠ some b) → SameAt F w w' := fun F hF b o f => by
    have hb := hF b o f
    have e := (hg.block b (Nat.lt_trans hb.1 hsz) (fun e => hb.2 e.symm)).trans (heap_alloc_old w _ hb.1)
    exact ⟨World.cell?_of_block (a := ⟨b, o, none⟩) e, World.frozen?_of_block (a := ⟨b, o, none⟩) e⟩
  refine ⟨⟨Nat.le_refl _, us ++ es, fun j => if j < xs.length then G j else if j = xs.length then F else fun _ _ => False, by simpa using hown, fun g hgv => (World.ownsRow.lt hown g hgv).2, fun j y hy => ?_, fun j b o' f => ?_, fun j j' hne b o' f f' => ?_⟩, hbe⟩
  · by_cases hj : j < xs.length
    · rw [List.getElem?_append_left hj] at hy
      obtain ⟨es', q1, q2⟩ := h3 j y hy
      simp only [if_pos hj]
      refine ⟨es', fun i u hu => ?_, S.owns_keep q2 (hkeep _ fun b o f => ⟨Nat.lt_of_lt_of_le (h4 j b o f).2.1 hh, (h4 j b o f).2.2⟩)⟩
      have := q1 i u hu
      rw [List.getElem?_append_left (List.getElem?_eq_some_iff.1 this).1]
      exact this
    · rw [List.getElem?_append_right (by omega)] at hy
      have hj0 : j - xs.length = 0 := by
        cases e : j - xs.length with
        | zero => rfl
        | succ i => rw [e] at hy; simp at hy
      obtain rfl : j = xs.length := by omega
      simp at hy
      subst hy
      simp only [Nat.lt_irrefl, if_false, if_true]
      refine ⟨es, fun i u hu => ?_, S.owns_keep hs (hkeep _ fun b o f => ⟨(hF b o f).2, fun e => ?_⟩)⟩
      · rw [← hus, List.getElem?_append_right (by omega), Nat.add_sub_cancel_left]
        exact hu
      · have e1 := h2 b e
        have e2 := (hF b o f).1
        omega
  · by_cases hj : j < xs.length
    · simp only [if_pos hj] at f
      have q := h4 j b o' f
      refine ⟨q.1, Nat.lt_of_lt_of_le q.2.1 (Nat.le_trans hh (Nat.le_trans (Nat.le_of_lt hsz) hg.size)), ?_⟩
      rcases hv with e | e
      · rw [e]; exact q.2.2
      · rw [e]; intro e'; have e2 : (w.alloc o).heap.size = b := by simpa using e'
        have := q.2.1
        omega
    · by_cases hj' : j = xs.length
      · subst hj'
        simp only [Nat.lt_irrefl, if_false, if_true] at f
        have q := hF b o' f
        refine ⟨by omega, Nat.lt_of_lt_of_le q.2 (Nat.le_trans (Nat.le_of_lt hsz) hg.size), ?_⟩
        rcases hv with e | e
        · rw [e]; intro e'; have := h2 b e'; omega
        · rw [e]; intro e'; have e2 : (w.alloc o).heap.size = b := by simpa using e'
          omega
      · simp only [if_neg hj, if_neg hj'] at f
  · have key : ∀ i, (if i < xs.length then G i else if i = xs.length then F else fun _ _ => False) b o' → (i < xs.length ∧ G i b o') ∨ (i = xs.length ∧ F b o') := fun i f => by
      by_cases hi : i < xs.length
      · simp only [if_pos hi] at f; exact .inl ⟨hi, f⟩
      · by_cases hi' : i = xs.length
        · simp only [if_neg hi, if_pos hi'] at f; exact .inr ⟨hi', f⟩
        · simp only [if_neg hi, if_neg hi'] at f
    rcases key j f with ⟨a1, a2⟩ | ⟨a1, a2⟩ <;> rcases key j' f' with ⟨b1, b2⟩ | ⟨b1, b2⟩
    · exact h5 j j' hne b o' a2 b2
    · have q1 := (h4 j b o' a2).2.1; have q2 := (hF b o' b2).1; omega
    · have q1 := (h4 j' b o' b2).2.1; have q2 := (hF b o' a2).1; omega
    · omega
/-- One element is written anew. -/
theorem owns_setCells {T : TypeId} {size n cap g : Nat} : ∀ (es : List Value) (o : Nat) (w : World) (us : List Value), w.ownsRow lo T size (.slice (some ⟨g, 0, none⟩) n cap) n us →
    ∃ us', (w.setCells g o es).ownsRow lo T size (.slice (some ⟨g, 0, none⟩) n cap) n us' ∧ us'.length = us.length ∧ (∀ i u, es[i]? = some u → o + i < us.length → us'[o + i]? = some u) ∧ ∀ k, k < o ∨ o + es.length ≤ k → us'[k]? = us[k]?
  | [], o, w, us, h => ⟨us, h, rfl, fun i u hu => by simp at hu, fun _ _ => rfl⟩
  | e :: es, o, w, us, h => by
    obtain ⟨us', h1, h2, h3, h4⟩ := owns_setCells es (o + 1) (w.setCell ⟨g, o, none⟩ e) (us.set o e) (World.ownsRow.stored h o e).1
    refine ⟨us', h1, by rw [h2, List.length_set], fun i u hu hlt => ?_, fun k hk => ?_⟩
    · cases i with
      | zero =>
        simp at hu
        subst hu
        rw [Nat.add_zero] at hlt ⊢
        rw [h4 o (.inl (by omega)), List.getElem?_set_self hlt]
      | succ i =>
        have := h3 i u (by simpa using hu) (by rw [List.length_set]; omega)
        rwa [show o + 1 + i = o + (i + 1) by omega] at this
    · rw [h4 k (by simp at hk; omega), List.getElem?_set_ne (by simp at hk; omega)]
theorem ListL.set {n cap g j : Nat} {es : List Value} {x : α} {F : Foot} (h : ListL S T lo hi w (.slice (some ⟨g, 0, none⟩) n cap) xs) (hj : j < xs.length) (hn : n = xs.length) (hs : S.owns F w es x) (hF : ∀ b o, F b o → hi ≤ b ∧ b < w.heap.size) :
    ListL S T lo w.heap.size (w.setCells g (j * S.size) es) (.slice (some ⟨g, 0, none⟩) n cap) (xs.set j x) ∧ Below lo w (w.setCells g (j * S.size) es) := by
  subst hn
  obtain ⟨us, G, h1, h2, h3, h4, h5⟩ := h.all
  have hlg := World.ownsRow.lt h1 g rfl
  have hgh := h2 g rfl
  have hes := S.owns_len hs
  have hus : us.length = xs.length * S.size := h1.1
  obtain ⟨us', k1, k2, k3, k4⟩ := owns_setCells es (j * S.size) w us h1
  have hT : Touched (fun b _ => b = g) w (w.setCells g (j * S.size) es) := touched_setCells _ _ _ _ fun _ _ => rfl
  have hpj := place_le (s := S.size) hj
  refine ⟨⟨by rw [size_setCells]; exact Nat.le_refl _, us', fun i => if i = j then F else G i, by rw [List.length_set]; exact k1, fun g' e => Nat.lt_of_lt_of_le (h2 g' e) h.top, fun i y hy => ?_, fun i b o f => ?_, fun i i' hne b o f f' => ?_⟩, hT.below fun b o e => by have e' : b = g := e; omega⟩
  · by_cases e : i = j
    · subst e
      rw [List.getElem?_set_self hj] at hy
      cases hy
      simp only [if_true]
      exact ⟨es, fun q u hu => k3 q u hu (by rw [hus]; have := (List.getElem?_eq_some_iff.1 hu).1; omega), S.owns_keep hs (hT.same fun b o f f' => by have e' : b = g := f; have := (hF b o f').1; omega)⟩
    · rw [List.getElem?_set_ne (fun e' => e e'.symm)] at hy
      simp only [if_neg e]
      obtain ⟨es', q1, q2⟩ := h3 i y hy
      have hi : i < xs.length := (List.getElem?_eq_some_iff.1 hy).1
      have hl' := S.owns_len q2
      refine ⟨es', fun q u hu => ?_, S.owns_keep q2 (hT.same fun b o f f' => by have e' : b = g := f; exact (h4 i b o f').2.2 (by rw [e']; rfl))⟩
      have hq := (List.getElem?_eq_some_iff.1 hu).1
      rw [k4 _ ?_]
      · exact q1 q u hu
      · rcases Nat.lt_or_gt_of_ne e with a | a
        · have := place_le (s := S.size) a; omega
        · have := place_le (s := S.size) a; omega
  · by_cases e : i = j
    · simp only [if_pos e] at f
      have q := hF b o f
      exact ⟨by omega, q.2, fun e' => by have e2 : g = b := by simpa [Value.ownBlock] using e'
                                         omega⟩
    · simp only [if_neg e] at f
      have q := h4 i b o f
      exact ⟨q.1, Nat.lt_of_lt_of_le q.2.1 h.top, q.2.2⟩
  · by_cases e : i = j <;> by_cases e' : i' = j
    · omega
    · simp only [if_pos e] at f; simp only [if_neg e'] at f'
      have q1 := (hF b o f).1; have q2 := (h4 i' b o f').2.1; omega
    · simp only [if_neg e] at f; simp only [if_pos e'] at f'
      have q1 := (hF b o f').1; have q2 := (h4 i b o f).2.1; omega
    · simp only [if_neg e] at f; simp only [if_neg e'] at f'
      exact h5 i i' hne b o f f'
/-- What is read at a place. -/
theorem ListL.form (h : ListL S T lo hi w v xs) : ∃ a cap, v = .slice a xs.length cap ∧ xs.length ≤ cap ∧ cap ≤ 9223372036854775807 := by
  obtain ⟨us, G, h1, -⟩ := h.all
  rcases h1.2 with ⟨rfl, hn⟩ | ⟨g, cap, cur, rfl, e1, e2, e3, e4, -⟩
  · exact ⟨none, 0, by rw [hn], by omega, by omega⟩
  · unfold maxLen at e4
    exact ⟨_, cap, rfl, e3, by omega⟩
theorem ListL.own (h : ListL S T lo hi w v xs) (hS : 0 < S.size) : (Owned.list S hS).owns (FromB lo hi) w [v] xs := by
  obtain ⟨us, G, h1, h2, h3, h4, h5⟩ := h.all
  have h1' := h1
  rcases h1.2 with ⟨rfl, hn⟩ | ⟨g, cap, cur, rfl, e1, e2, e3, e4, -⟩
  · exact ⟨none, 0, 0, rfl, Nat.le_refl _, by omega, hn, .inl rfl⟩
  · unfold maxLen at e4
    have hgh := h2 g rfl
    have hus : us.length = xs.length * S.size := h1.1
    refine ⟨_, xs.length, cap, rfl, e3, by omega, rfl, .inr ⟨g, 0, G, rfl, fun i hi => ⟨e1, hgh⟩, fun i hi => ?_, fun j x hx => ?_, fun j b' o' f => ?_, h5⟩⟩
    · rw [Nat.zero_add]
      constructor
      · rw [World.ownsRow.cellAt h1' i hi, List.getElem?_eq_getElem (by omega)]; rfl
      · exact World.ownsRow.frozenAt h1' i
    · obtain ⟨es, q1, q2⟩ := h3 j x hx
      refine ⟨es, fun i u hu => ?_, q2⟩
      have hj : j < xs.length := (List.getElem?_eq_some_iff.1 hx).1
      have hi := (List.getElem?_eq_some_iff.1 hu).1
      have hl := S.owns_len q2
      have hp := place_le (s := S.size) hj
      rw [Nat.zero_add, World.ownsRow.cellAt h1' _ (by omega)]
      exact q1 i u hu
    · have q := h4 j b' o' f
      exact ⟨⟨q.1, q.2.1⟩, fun c => q.2.2 (by rw [c.1]; rfl)⟩
theorem ListL.list (h : ListL S T lo hi w v xs) (hS : 0 < S.size) : ∃ a cap, v = .slice a xs.length cap ∧ xs.length ≤ cap ∧ cap ≤ 9223372036854775807 ∧ OwnList S (FromB lo hi) w a xs.length xs := by
  obtain ⟨a, n, c, e, q1, q2, q3⟩ := h.own hS
  obtain rfl : v = .slice a n c := by simpa using e
  obtain rfl : xs.length = n := q3.1
  exact ⟨a, c, rfl, q1, q2, q3⟩

/-! ### The same, where elements may share what they lead to -/
/-- A list of a call's own; what its elements lead to lies below hi, but not in the list's own block. -/
structure ListR {α : Type} (S : Shape α) (T : TypeId) (lo hi : Nat) (w : World) (v : Value) (xs : List α) : Prop where
  top : hi ≤ w.heap.size
  all : ∃ us, w.ownsRow lo T S.size v xs.length us ∧ (∀ g, v.ownBlock = some g → g < hi) ∧
    ∀ j x, xs[j]? = some x → ∃ es, (∀ i u, es[i]? = some u → us[j * S.size + i]? = some u) ∧ es.length = S.size ∧ S.reads (fun b => b < hi ∧ v.ownBlock ≠ some b) w es x
section
variable {S : Shape α}
theorem ListR.nil (S : Shape α) (T : TypeId) {lo hi : Nat} {w : World} (h : hi ≤ w.heap.size) : ListR S T lo hi w (.slice none 0 0) [] :=
  ⟨h, [], World.ownsRow_nil _ _ _ _, fun g hg => by simp [Value.ownBlock] at hg, fun j x hx => by simp at hx⟩
theorem ListR.empty (S : Shape α) (T : TypeId) {lo : Nat} (w : World) (h : lo ≤ w.heap.size) : ListR S T lo (w.heap.size + 1) (w.alloc (.cells #[] T (0, 0))) (.slice (some ⟨w.heap.size, 0, none⟩) 0 0) ([] : List α) :=
  ⟨by simp, [], ⟨by simp, .inr ⟨w.heap.size, 0, #[], rfl, h, heap_alloc_new w _, Nat.le_refl _, Nat.zero_le _, by simp, by simp⟩⟩, fun g hg => by simp [Value.ownBlock] at hg; omega, fun j x hx => by simp at hx⟩
theorem ListR.below {B : Nat} (h : ListR S T lo hi w v xs) (hb : Below B w w') (hB : hi ≤ B) : ListR S T lo hi w' v xs := by
  obtain ⟨us, h1, h2, h3⟩ := h.all
  refine ⟨Nat.le_trans h.top hb.size, us, ⟨h1.1, h1.2.imp id ?_⟩, h2, fun j x hx => ?_⟩
  · rintro ⟨g, cap, cur, rfl, e1, e2, e3⟩
    exact ⟨g, cap, cur, rfl, e1, (hb.block g (Nat.lt_of_lt_of_le (h2 g rfl) hB)).trans e2, e3⟩
  · obtain ⟨es, q1, q2, q3⟩ := h3 j x hx
    exact ⟨es, q1, q2, S.keep q3 fun b hb' => hb.block b (Nat.lt_of_lt_of_le hb'.1 hB)⟩
theorem ListR.wide {lo' hi' : Nat} (h : ListR S T lo hi w v xs) (hl : lo' ≤ lo) (hh : hi ≤ hi') (ht : hi' ≤ w.heap.size) : ListR S T lo' hi' w v xs := by
  obtain ⟨us, h1, h2, h3⟩ := h.all
  refine ⟨ht, us, World.ownsRow.mono h1 hl, fun g hg => Nat.lt_of_lt_of_le (h2 g hg) hh, fun j x hx => ?_⟩
  obtain ⟨es, q1, q2, q3⟩ := h3 j x hx
  exact ⟨es, q1, q2, S.sub q3 fun b hb => ⟨Nat.lt_of_lt_of_le hb.1 hh, hb.2⟩⟩
/-- A list is read. -/
theorem ListR.list (h : ListR S T lo hi w v xs) : ∃ a cap, v = .slice a xs.length cap ∧ xs.length ≤ cap ∧ cap ≤ 9223372036854775807 ∧ ListAt S (Under hi) w a xs.length xs := by
  obtain ⟨us, h1, h2, h3⟩ := h.all
  have h1' := h1
  rcases h1.2 with ⟨rfl, hn⟩ | ⟨g, cap, cur, rfl, e1, e2, e3, e4, -⟩
  · refine ⟨none, 0, by rw [hn], by omega, by omega, rfl, fun j x hx => ?_⟩
    have := (List.getElem?_eq_some_iff.1 hx).1
    omega
  · unfold maxLen at e4
    refine ⟨_, cap, rfl, e3, by omega, rfl, fun j x hx => ?_⟩
    obtain ⟨es, q1, q2, q3⟩ := h3 j x hx
    have hj : j < xs.length := (List.getElem?_eq_some_iff.1 hx).1
    have hp := place_le (s := S.size) hj
    refine ⟨g, 0, es, rfl, h2 g rfl, fun i u hu => ?_, S.sub q3 fun b hb => hb.1⟩
    have hi := (List.getElem?_eq_some_iff.1 hu).1
    rw [Nat.zero_add, World.ownsRow.cellAt h1' _ (by omega)]
    exact q1 i u hu
/-- The first k of it. -/
theorem ListR.take {a : Option Addr} {n cap k : Nat} (h : ListR S T lo hi w (.slice a n cap) xs) (hk : k ≤ n) (ha : a ≠ none) : ListR S T lo hi w (.slice a k cap) (xs.take k) := by
  obtain ⟨us, h1, h2, h3⟩ := h.all
  have hus := h1.1
  rcases h1.2 with ⟨e, -⟩ | ⟨g, cap', cur, e, e1, e2, e3, e4, e5, e6⟩
  · simp only [Value.slice.injEq] at e
    exact absurd e.1 ha
  · simp only [Value.slice.injEq] at e
    obtain ⟨rfl, rfl, rfl⟩ := e
    have hl : (xs.take k).length = k := by rw [List.length_take]; omega
    have hkm : k * S.size ≤ xs.length * S.size := Nat.mul_le_mul_right _ hk
    refine ⟨h.top, us.take (k * S.size), ⟨by rw [hl, List.length_take]; omega, .inr ⟨g, cap, cur, by rw [hl], e1, e2, by omega, e4, e5, by rw [hl, ← e6, List.take_take, Nat.min_eq_left hkm]⟩⟩, h2, fun j x hx => ?_⟩
    rw [List.getElem?_take] at hx
    split at hx
    · rename_i hj
      obtain ⟨es, q1, q2, q3⟩ := h3 j x hx
      have hp := place_le (s := S.size) hj
      refine ⟨es, fun i u hu => ?_, q2, q3⟩
      have hi := (List.getElem?_eq_some_iff.1 hu).1
      rw [List.getElem?_take, if_pos (by omega)]
      exact q1 i u hu
    · cases hx
/-- One element more. -/
theorem ListR.put {es : List Value} {x : α} {o : Obj} {us : List Value} (hlo : lo ≤ hi)
    (h1 : w.ownsRow lo T S.size v xs.length us) (h2 : ∀ g, v.ownBlock = some g → g < hi) (hh : hi ≤ w.heap.size) (h3 : ∀ j x, xs[j]? = some x → ∃ es, (∀ i u, es[i]? = some u → us[j * S.size + i]? = some u) ∧ es.length = S.size ∧ S.reads (fun b => b < hi ∧ v.ownBlock ≠ some b) w es x)
    (hs : S.reads (fun b => b < w.heap.size ∧ v.ownBlock ≠ some b) w es x) (hl : es.length = S.size)
    (hown : w'.ownsRow lo T S.size v' (xs.length + 1) (us ++ es)) (hg : (w.alloc o).grownBy w' v.ownBlock) (hv : v'.ownBlock = v.ownBlock ∨ v'.ownBlock = some (w.alloc o).heap.size) :
    ListR S T lo w'.heap.size w' v' (xs ++ [x]) ∧ Below lo w w' := by
  have hsz : w.heap.size < (w.alloc o).heap.size := by simp
  have hus : us.length = xs.length * S.size := h1.1
  have hbe : Below lo w w' := ((Below.refl lo w).alloc (Nat.le_trans hlo hh) o).grown hg (by omega) (fun k hk => (World.ownsRow.lt h1 k hk).1)
  have hkeep : ∀ b, (b < w.heap.size ∧ v.ownBlock ≠ some b) → w'.heap[b]? = w.heap[b]? := fun b hb =>
    (hg.block b (Nat.lt_trans hb.1 hsz) (fun e => hb.2 e.symm)).trans (heap_alloc_old w _ hb.1)
  have hnew : ∀ b, (b < w.heap.size ∧ v.ownBlock ≠ some b) → (b < w'.heap.size ∧ v'.ownBlock ≠ some b) := fun b hb => by
    refine ⟨Nat.lt_of_lt_of_le hb.1 (Nat.le_trans (Nat.le_of_lt hsz) hg.size), ?_⟩
    rcases hv with e | e
    · rw [e]; exact hb.2
    · rw [e]; intro e'; have e2 : (w.alloc o).heap.size = b := by simpa using e'
      have := hb.1
      omega
  refine ⟨⟨Nat.le_refl _, us ++ es, by simpa using hown, fun g hgv => (World.ownsRow.lt hown g hgv).2, fun j y hy => ?_⟩, hbe⟩
  by_cases hj : j < xs.length
  · rw [List.getElem?_append_left hj] at hy
    obtain ⟨es', q1, q2, q3⟩ := h3 j y hy
    refine ⟨es', fun i u hu => ?_, q2, S.sub (S.keep q3 fun b hb => hkeep b ⟨Nat.lt_of_lt_of_le hb.1 hh, hb.2⟩) fun b hb => hnew b ⟨Nat.lt_of_lt_of_le hb.1 hh, hb.2⟩⟩
    have := q1 i u hu
    rw [List.getElem?_append_left (List.getElem?_eq_some_iff.1 this).1]
    exact this
  · rw [List.getElem?_append_right (by omega)] at hy
    have hj0 : j - xs.length = 0 := by
      cases e : j - xs.length with
      | zero => rfl
      | succ i => rw [e] at hy; simp at hy
    obtain rfl : j = xs.length := by omega
    simp at hy
    subst hy
    refine ⟨es, fun i u hu => ?_, hl, S.sub (S.keep hs hkeep) hnew⟩
    rw [← hus, List.getElem?_append_right (by omega), Nat.add_sub_cancel_left]
    exact hu
/-- One element is written anew. -/
theorem ListR.set {n cap g j : Nat} {es : List Value} {x : α} (h : ListR S T lo hi w (.slice (some ⟨g, 0, none⟩) n cap) xs) (hj : j < xs.length) (hn : n = xs.length) (hl : es.length = S.size) (hs : S.reads (fun b => b < w.heap.size ∧ some g ≠ some b) w es x) :
    ListR S T lo w.heap.size (w.setCells g (j * S.size) es) (.slice (some ⟨g, 0, none⟩) n cap) (xs.set j x) ∧ Below lo w (w.setCells g (j * S.size) es) := by
  subst hn
  obtain ⟨us, h1, h2, h3⟩ := h.all
  have hlg := World.ownsRow.lt h1 g rfl
  have hus : us.length = xs.length * S.size := h1.1
  obtain ⟨us', k1, k2, k3, k4⟩ := owns_setCells es (j * S.size) w us h1
  have hT : Touched (fun b _ => b = g) w (w.setCells g (j * S.size) es) := touched_setCells _ _ _ _ fun _ _ => rfl
  have hpj := place_le (s := S.size) hj
  have hkeep : ∀ b, some g ≠ some b → (w.setCells g (j * S.size) es).heap[b]? = w.heap[b]? := fun b hb => hT.block b fun _ e => by
    have e' : b = g := e
    exact hb (by rw [e'])
  refine ⟨⟨by rw [size_setCells]; exact Nat.le_refl _, us', by rw [List.length_set]; exact k1, fun g' e => Nat.lt_of_lt_of_le (h2 g' e) h.top, fun i y hy => ?_⟩, hT.below fun b o e => by have e' : b = g := e; omega⟩
  by_cases e : i = j
  · subst e
    rw [List.getElem?_set_self hj] at hy
    cases hy
    exact ⟨es, fun q u hu => k3 q u hu (by rw [hus]; have := (List.getElem?_eq_some_iff.1 hu).1; omega), hl, S.sub (S.keep hs fun b hb => hkeep b hb.2) fun b hb => ⟨hb.1, hb.2⟩⟩
  · rw [List.getElem?_set_ne (fun e' => e e'.symm)] at hy
    obtain ⟨es', q1, q2, q3⟩ := h3 i y hy
    have hi : i < xs.length := (List.getElem?_eq_some_iff.1 hy).1
    refine ⟨es', fun q u hu => ?_, q2, S.sub (S.keep q3 fun b hb => hkeep b hb.2) fun b hb => ⟨Nat.lt_of_lt_of_le hb.1 h.top, hb.2⟩⟩
    have hq := (List.getElem?_eq_some_iff.1 hu).1
    rw [k4 _ ?_]
    · exact q1 q u hu
    · rcases Nat.lt_or_gt_of_ne e with a | a
      · have := place_le (s := S.size) a; omega
      · have := place_le (s := S.size) a; omega
end
end Go.Proofs.Ytcooobnaocbdjaa
