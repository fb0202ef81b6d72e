/-
  Data with depth: shapes (numbers, marks, lists, structs), what cells read as a datum, and how what came in is opened. Of no program.
-/
import Derived.Test.YtcooobnaocbdjaaRow
import Derived.Deep.MidRow
import Derived.Deep.Slices
import Derived.ChangeArms
namespace Go.Proofs.Ytcooobnaocbdjaa
open Go.RowKit
set_option linter.unusedVariables false

/-- A set of blocks; those below B; those from lo on, below hi. -/
abbrev Under (B : Nat) : Nat → Prop := fun b => b < B
abbrev From (lo hi : Nat) : Nat → Prop := fun b => lo ≤ b ∧ b < hi
/-- The blocks of a set are as they were. -/
def Kept (I : Nat → Prop) (w w' : World) : Prop := ∀ b, I b → w'.heap[b]? = w.heap[b]?
theorem Kept.of_below {I : Nat → Prop} {B : Nat} {w w' : World} (h : Below B w w') (hI : ∀ b, I b → b < B) : Kept I w w' := fun b hb => h.block b (hI b hb)
theorem rangeAt_kept {I : Nat → Prop} {w w' : World} {b o : Nat} {es : List Value} (h : w.rangeAt b o es) (hb : I b) (hw : Kept I w w') : w'.rangeAt b o es :=
  fun j v hv => (World.cell?_of_block (w := w) (w' := w') (a := ⟨b, o + j, none⟩) (hw b hb)).trans (h j v hv)

/-- A shape of data: how many cells it takes; which cells read as which datum, all that is led to lying in blocks of a set; which types have it; how many places its lists have. -/
structure Shape (α : Type) : Type 1 where
  size : Nat
  reads : (Nat → Prop) → World → List Value → α → Prop
  fits : Program → TypeId → Bool
  bulk : α → Nat
  len : ∀ {I w cs d}, reads I w cs d → cs.length = size
  keep : ∀ {I w w' cs d}, reads I w cs d → Kept I w w' → reads I w' cs d
  sub : ∀ {I J : Nat → Prop} {w cs d}, reads I w cs d → (∀ b, I b → J b) → reads J w cs d
  opens : ∀ {H : Type} {enc : TypeId × Value → H} {P : Program} {w : World} {base : Nat} {spare : Nat → Bool} {held : Bool} {fuel : Nat} {t : TypeId} {cs : List Value} {x : DataW H × List MemPlace},
    fits P t = true → DataW.trod enc P w base spare held fuel t cs = some x → ∃ d, reads (Under w.heap.size) w cs d

/-- A list lies at a: n places, one behind the other, each of so many cells. -/
def ListAt {α : Type} (S : Shape α) (I : Nat → Prop) (w : World) (a : Option Addr) (n : Nat) (xs : List α) : Prop :=
  xs.length = n ∧ ∀ (j : Nat) (x : α), xs[j]? = some x → ∃ b o es, a = some ⟨b, o, none⟩ ∧ I b ∧ w.rangeAt b (o + j * S.size) es ∧ S.reads I w es x
theorem ListAt.keep {α : Type} {S : Shape α} {I : Nat → Prop} {w w' : World} {a : Option Addr} {n : Nat} {xs : List α} (h : ListAt S I w a n xs) (hw : Kept I w w') : ListAt S I w' a n xs :=
  ⟨h.1, fun j x hx => by
    obtain ⟨b, o, es, e, hb, hr, hs⟩ := h.2 j x hx
    exact ⟨b, o, es, e, hb, rangeAt_kept hr hb hw, S.keep hs hw⟩⟩
theorem ListAt.sub {α : Type} {S : Shape α} {I J : Nat → Prop} {w : World} {a : Option Addr} {n : Nat} {xs : List α} (h : ListAt S I w a n xs) (hI : ∀ b, I b → J b) : ListAt S J w a n xs :=
  ⟨h.1, fun j x hx => by
    obtain ⟨b, o, es, e, hb, hr, hs⟩ := h.2 j x hx
    exact ⟨b, o, es, e, hI b hb, hr, S.sub hs hI⟩⟩
theorem ListAt.below {α : Type} {S : Shape α} {B B' : Nat} {w w' : World} {a : Option Addr} {n : Nat} {xs : List α} (h : ListAt S (Under B) w a n xs) (hw : Below B' w w') (hB : B ≤ B') : ListAt S (Under B) w' a n xs :=
  h.keep (.of_below hw fun b hb => Nat.lt_of_lt_of_le hb hB)
theorem ListAt.le {α : Type} {S : Shape α} {B B' : Nat} {w : World} {a : Option Addr} {n : Nat} {xs : List α} (h : ListAt S (Under B) w a n xs) (hB : B ≤ B') : ListAt S (Under B') w a n xs :=
  h.sub fun b hb => Nat.lt_of_lt_of_le hb hB
theorem Shape.below {α : Type} (S : Shape α) {B B' : Nat} {w w' : World} {cs : List Value} {d : α} (h : S.reads (Under B) w cs d) (hw : Below B' w w') (hB : B ≤ B') : S.reads (Under B) w' cs d :=
  S.keep h (.of_below hw fun b hb => Nat.lt_of_lt_of_le hb hB)
theorem Shape.le {α : Type} (S : Shape α) {B B' : Nat} {w : World} {cs : List Value} {d : α} (h : S.reads (Under B) w cs d) (hB : B ≤ B') : S.reads (Under B') w cs d :=
  S.sub h fun b hb => Nat.lt_of_lt_of_le hb hB

namespace Shape
def int : Shape Int where
  size := 1
  reads := fun _ _ cs x => cs = [.int .i64 x]
  fits := fun P t => match P.underlying t with | some (.int .i64) => true | _ => false
  bulk := fun _ => 0
  len := by rintro _ _ _ _ rfl; rfl
  keep := fun h _ => h
  sub := fun h _ => h
  opens := by
    intro H enc P w base spare held fuel t cs x hf h
    split at hf
    · rename_i ht
      obtain ⟨n, hn, _⟩ := DataW.trod_int ht h
      exact ⟨n, hn⟩
    · cases hf
def bool : Shape Bool where
  size := 1
  reads := fun _ _ cs x => cs = [.bool x]
  fits := fun P t => match P.underlying t with | some .bool => true | _ => false
  bulk := fun _ => 0
  len := by rintro _ _ _ _ rfl; rfl
  keep := fun h _ => h
  sub := fun h _ => h
  opens := by
    intro H enc P w base spare held fuel t cs x hf h
    split at hf
    · rename_i ht
      obtain ⟨n, hn, _⟩ := DataW.trod_bool ht h
      exact ⟨n, hn⟩
    · cases hf

/-- From 'for each place there is one' to a list. -/
theorem list_of {α : Type} {p : Nat → α → Prop} (n : Nat) (h : ∀ j, j < n → ∃ x, p j x) : ∃ xs : List α, xs.length = n ∧ ∀ j x, xs[j]? = some x → p j x := by
  induction n with
  | zero => exact ⟨[], rfl, fun j x hx => by simp at hx⟩
  | succ n ih =>
    obtain ⟨xs, hl, hp⟩ := ih fun j hj => h j (by omega)
    obtain ⟨x, hx⟩ := h n (by omega)
    refine ⟨xs ++ [x], by simp [hl], fun j y hy => ?_⟩
    by_cases hj : j < n
    · rw [List.getElem?_append_left (by omega)] at hy
      exact hp j y hy
    · have hjn : j = n := by
        have := (List.getElem?_eq_some_iff.1 hy).1
        simp [hl] at this
        omega
      subst hjn
      rw [List.getElem?_append_right (by omega), hl, Nat.sub_self] at hy
      cases hy
      exact hx
def sum {α : Type} (f : α → Nat) : List α → Nat
  | [] => 0
  | x :: xs => f x + sum f xs
theorem sum_append {α : Type} (f : α → Nat) (xs ys : List α) : sum f (xs ++ ys) = sum f xs + sum f ys := by
  induction xs with
  | nil => simp [sum]
  | cons x xs ih => simp only [List.cons_append, sum, ih]; omega

def list {α : Type} (S : Shape α) : Shape (List α) where
  size := 1
  reads := fun I w cs xs => ∃ a n c, cs = [.slice a n c] ∧ n ≤ c ∧ c ≤ 9223372036854775807 ∧ ListAt S I w a n xs
  fits := fun P t => match P.underlying t with | some (.slice e) => P.cellsOf e == S.size && (decide (0 < S.size) && S.fits P e) | _ => false
  bulk := fun xs => xs.length + sum S.bulk xs
  len := by rintro _ _ _ _ ⟨_, _, _, rfl, _⟩; rfl
  keep := by
    rintro I w w' cs d ⟨a, n, c, e, h1, h2, h3⟩ hw
    exact ⟨a, n, c, e, h1, h2, h3.keep hw⟩
  sub := by
    rintro I J w cs d ⟨a, n, c, e, h1, h2, h3⟩ hI
    exact ⟨a, n, c, e, h1, h2, h3.sub hI⟩
  opens := by
    intro H enc P w base spare held fuel t cs x hf h
    split at hf
    · rename_i e ht
      simp only [Bool.and_eq_true, beq_iff_eq, decide_eq_true_eq] at hf
      obtain ⟨hc, h0, hfe⟩ := hf
      rcases Deep.open_slice ht h with ⟨rfl, _⟩ | ⟨a, len, cap, m, n, D, Pl, rfl, hb, hl, hm, hmm, _, hx⟩
      · exact ⟨[], none, 0, 0, rfl, Nat.le_refl _, by omega, rfl, fun j x hx => by simp at hx⟩
      · have hlm : len ≤ m := by rw [hmm]; split <;> omega
        have hx' := fun i (hi : i < len) => hx i (by omega)
        obtain ⟨xs, hxl, hxs⟩ := list_of (p := fun j x => ∃ es, w.cells? base (a.add (j * P.cellsOf e)) (P.cellsOf e) = some es ∧ S.reads (Under w.heap.size) w es x) len fun j hj => by
          obtain ⟨cs', h1, h2⟩ := hx j (by omega)
          obtain ⟨d, hd⟩ := S.opens hfe h2
          exact ⟨d, cs', h1, hd⟩
        unfold maxLen at hm
        refine ⟨xs, some a, len, cap, rfl, hl, by omega, hxl, fun j x hjx => ?_⟩
        obtain ⟨es, h1, h2⟩ := hxs j x hjx
        obtain ⟨_, hel, hcell⟩ := World.cells?_some h1
        have hes := S.len h2
        obtain ⟨b, o, spot⟩ := a
        have hc0 := hcell 0 (by omega)
        rw [List.getElem?_eq_getElem (by omega)] at hc0
        have hspot : spot = none := by
          have hjl : j < len := by rw [← hxl]; exact (List.getElem?_eq_some_iff.1 hjx).1
          obtain ⟨c0, k1, k2⟩ := hx' 0 (by omega)
          obtain ⟨_, kel, kcell⟩ := World.cells?_some k1
          have kc := kcell 0 (by omega)
          rw [List.getElem?_eq_getElem (by omega)] at kc
          have := World.cell?_spot kc
          simpa [Addr.add] using this
        subst hspot
        simp only [Addr.add_mid] at hcell hc0
        refine ⟨b, o, es, rfl, World.block_lt_of_cell? w _ hc0, fun i v hv => ?_, h2⟩
        have hi := (List.getElem?_eq_some_iff.1 hv).1
        rw [← hc]
        rw [hcell i (by omega)]
        exact hv
    · cases hf
end Shape

/-- The fields of a struct, from one offset on. -/
structure FieldsOf (α : Type) : Type 1 where
  size : Nat
  reads : (Nat → Prop) → World → List Value → α → Prop
  fits : Program → List Field → Nat → Bool
  bulk : α → Nat
  len : ∀ {I w cs d}, reads I w cs d → cs.length = size
  keep : ∀ {I w w' cs d}, reads I w cs d → Kept I w w' → reads I w' cs d
  sub : ∀ {I J : Nat → Prop} {w cs d}, reads I w cs d → (∀ b, I b → J b) → reads J w cs d
  opens : ∀ {H : Type} {enc : TypeId × Value → H} {P : Program} {w : World} {base : Nat} {spare : Nat → Bool} {held : Bool} {fuel : Nat} {fs : List Field} {off : Nat} {cs : List Value},
    fits P fs off = true → cs.length = off + size → (∀ f ∈ fs, ∃ y, DataW.trod enc P w base spare held fuel f.type ((cs.drop f.offset).take (P.cellsOf f.type)) = some y) → ∃ d, reads (Under w.heap.size) w (cs.drop off) d

namespace FieldsOf
def last {α : Type} (S : Shape α) : FieldsOf α where
  size := S.size
  reads := S.reads
  fits := fun P fs off => match fs with | [f] => f.offset == off && (P.cellsOf f.type == S.size && S.fits P f.type) | _ => false
  bulk := S.bulk
  len := S.len
  keep := S.keep
  sub := S.sub
  opens := by
    intro H enc P w base spare held fuel fs off cs hf hl h
    split at hf
    · rename_i f
      simp only [Bool.and_eq_true, beq_iff_eq] at hf
      obtain ⟨h1, h2, h3⟩ := hf
      obtain ⟨y, hy⟩ := h f (by simp)
      obtain ⟨d, hd⟩ := S.opens h3 hy
      rw [h1, h2, List.take_of_length_le (by simp; omega)] at hd
      exact ⟨d, hd⟩
    · cases hf
def cons {α β : Type} (S : Shape α) (F : FieldsOf β) : FieldsOf (α × β) where
  size := S.size + F.size
  reads := fun I w cs d => ∃ c1 c2, cs = c1 ++ c2 ∧ S.reads I w c1 d.1 ∧ F.reads I w c2 d.2
  fits := fun P fs off => match fs with | f :: r => f.offset == off && (P.cellsOf f.type == S.size && (S.fits P f.type && F.fits P r (off + S.size))) | _ => false
  bulk := fun d => S.bulk d.1 + F.bulk d.2
  len := by
    rintro B w cs d ⟨c1, c2, rfl, h1, h2⟩
    rw [List.length_append, S.len h1, F.len h2]
  keep := by
    rintro I w w' cs d ⟨c1, c2, e, h1, h2⟩ hw
    exact ⟨c1, c2, e, S.keep h1 hw, F.keep h2 hw⟩
  sub := by
    rintro I J w cs d ⟨c1, c2, e, h1, h2⟩ hI
    exact ⟨c1, c2, e, S.sub h1 hI, F.sub h2 hI⟩
  opens := by
    intro H enc P w base spare held fuel fs off cs hf hl h
    split at hf
    · rename_i f r
      simp only [Bool.and_eq_true, beq_iff_eq] at hf
      obtain ⟨h1, h2, h3, h4⟩ := hf
      obtain ⟨y, hy⟩ := h f (by simp)
      obtain ⟨d, hd⟩ := S.opens h3 hy
      obtain ⟨d', hd'⟩ := F.opens h4 (cs := cs) (by omega) (fun g hg => h g (List.mem_cons_of_mem _ hg))
      rw [h1, h2] at hd
      refine ⟨(d, d'), _, _, ?_, hd, hd'⟩
      rw [← List.drop_drop, List.take_append_drop]
    · cases hf
end FieldsOf
namespace Shape
def struct {α : Type} (F : FieldsOf α) : Shape α where
  size := F.size
  reads := F.reads
  fits := fun P t => match P.underlying t with | some (.struct fs) => P.cellsOf t == F.size && F.fits P fs.toList 0 | _ => false
  bulk := F.bulk
  len := F.len
  keep := F.keep
  sub := F.sub
  opens := by
    intro H enc P w base spare held fuel t cs x hf h
    split at hf
    · rename_i fs ht
      simp only [Bool.and_eq_true, beq_iff_eq] at hf
      obtain ⟨xs, n, hn, _, hl, hxl, hx⟩ := DataW.trod_struct ht h
      have := F.opens hf.2 (cs := cs) (w := w) (enc := enc) (base := base) (spare := spare) (held := held) (fuel := n) (by omega) (fun f hfm => by
        obtain ⟨i, hi⟩ := List.mem_iff_getElem?.1 hfm
        have hi' : fs[i]? = some f := by simpa using hi
        have hlt : i < fs.size := by
          have := (Array.getElem?_eq_some_iff.1 hi').1
          exact this
        rw [hx i f hi', List.getElem?_eq_getElem (by omega)]
        exact ⟨_, rfl⟩)
      simpa using this
    · cases hf
end Shape

/-- A row of numbers of a bounded length is what the walks over rows are told. -/
theorem ListAt.ints {B : Nat} {w : World} {a : Option Addr} {n : Nat} {xs : List Int} (h : ListAt Shape.int (Under B) w a n xs) (hr : n ≤ 1048576) : IntsIn B w a n xs :=
  ⟨h.1, hr, fun j hj => by
    have hx : xs[j]? = some (xs.getD j 0) := by
      rw [List.getElem?_eq_getElem (by rw [h.1]; exact hj)]
      simp [List.getD, h.1, hj]
    obtain ⟨b, o, es, e, hb, hr, hs⟩ := h.2 j _ hx
    have hs' : es = [.int .i64 (xs.getD j 0)] := hs
    subst hs'
    refine ⟨b, o, e, hb, ?_⟩
    have := hr 0 _ rfl
    simpa [Shape.int] using this⟩
theorem ListAt.of_ints {B : Nat} {w : World} {a : Option Addr} {n : Nat} {xs : List Int} (h : IntsIn B w a n xs) : ListAt Shape.int (Under B) w a n xs :=
  ⟨h.len, fun j x hx => by
    have hj := (List.getElem?_eq_some_iff.1 hx).1
    obtain ⟨b, o, e, hb, hc⟩ := h.cells j (by rw [← h.len]; exact hj)
    have hxe : xs.getD j 0 = x := by rw [List.getD_eq_getElem?_getD, hx]; rfl
    refine ⟨b, o, [.int .i64 x], e, hb, fun i v hv => ?_, rfl⟩
    cases i with
    | zero => cases hv; rw [← hxe]; simpa [Shape.int] using hc
    | succ i => simp at hv⟩
end Go.Proofs.Ytcooobnaocbdjaa
