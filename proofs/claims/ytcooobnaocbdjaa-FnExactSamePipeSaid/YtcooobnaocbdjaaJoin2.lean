import Derived.Test.YtcooobnaocbdjaaJoin1
import Derived.Deep.MidRow
import Derived.Deep.Slices
import Derived.ChangeArms
/-! YtcooobnaocbdjaaPShape -/
section

namespace Go.Proofs.Ytcooobnaocbdjaa
open Go.RowKit
set_option linter.unusedVariables false

/-- A set of blocks; those below B; those from lo on, below hi. -/
abbrev Under (B : Nat) : Nat → Prop := fun b => b < B
abbrev From (lo hi : Nat) : Nat → Prop := fun b => lo ≤ b ∧ b < hi
/-- The blocks of a set are as they were. -/
def Kept (I : Nat → Prop) (w w' : World) : Prop := ∀ b, I b → w'.heap[b]? = w.heap[b]?
theorem Kept.of_below {I : Nat → Prop} {B : Nat} {w w' : World} (h : Below B w w') (hI : ∀ b, I b → b < B) : Kept I w w' := fun b hb => h.block b (hI b hb)
theorem rangeAt_kept {I : Nat → Prop} {w w' : World} {b o : Nat} {es : List Value} (h : w.rangeAt b o es) (hb : I b) (hw : Kept I w w') : w'.rangeAt b o es :=
  fun j v hv => (World.cell?_of_block (w := w) (w' := w') (a := ⟨b, o + j, none⟩) (hw b hb)).trans (h j v hv)

/-- A shape of data: how many cells it takes; which cells read as which datum, all that is led to lying in blocks of a set; which types have it; how many places its lists have. -/
structure Shape (α : Type) : Type 1 where
  size : Nat
  reads : (Nat → Prop) → World → List Value → α → Prop
  fits : Program → TypeId → Bool
  bulk : α → Nat
  len : ∀ {I w cs d}, reads I w cs d → cs.length = size
  keep : ∀ {I w w' cs d}, reads I w cs d → Kept I w w' → reads I w' cs d
  sub : ∀ {I J : Nat → Prop} {w cs d}, reads I w cs d → (∀ b, I b → J b) → reads J w cs d
  opens : ∀ {H : Type} {enc : TypeId × Value → H} {P : Program} {w : World} {base : Nat} {spare : Nat → Bool} {held : Bool} {fuel : Nat} {t : TypeId} {cs : List Value} {x : DataW H × List MemPlace},
    fits P t = true → DataW.trod enc P w base spare held fuel t cs = some x → ∃ d, reads (Under w.heap.size) w cs d

/-- A list lies at a: n places, one behind the other, each of so many cells. -/
def ListAt {α : Type} (S : Shape α) (I : Nat → Prop) (w : World) (a : Option Addr) (n : Nat) (xs : List α) : Prop :=
  xs.length = n ∧ ∀ (j : Nat) (x : α), xs[j]? = some x → ∃ b o es, a = some ⟨b, o, none⟩ ∧ I b ∧ w.rangeAt b (o + j * S.size) es ∧ S.reads I w es x
theorem ListAt.keep {α : Type} {S : Shape α} {I : Nat → Prop} {w w' : World} {a : Option Addr} {n : Nat} {xs : List α} (h : ListAt S I w a n xs) (hw : Kept I w w') : ListAt S I w' a n xs :=
  ⟨h.1, fun j x hx => by
    obtain ⟨b, o, es, e, hb, hr, hs⟩ := h.2 j x hx
    exact ⟨b, o, es, e, hb, rangeAt_kept hr hb hw, S.keep hs hw⟩⟩
theorem ListAt.sub {α : Type} {S : Shape α} {I J : Nat → Prop} {w : World} {a : Option Addr} {n : Nat} {xs : List α} (h : ListAt S I w a n xs) (hI : ∀ b, I b → J b) : ListAt S J w a n xs :=
  ⟨h.1, fun j x hx => by
    obtain ⟨b, o, es, e, hb, hr, hs⟩ := h.2 j x hx
    exact ⟨b, o, es, e, hI b hb, hr, S.sub hs hI⟩⟩
theorem ListAt.below {α : Type} {S : Shape α} {B B' : Nat} {w w' : World} {a : Option Addr} {n : Nat} {xs : List α} (h : ListAt S (Under B) w a n xs) (hw : Below B' w w') (hB : B ≤ B') : ListAt S (Under B) w' a n xs :=
  h.keep (.of_below hw fun b hb => Nat.lt_of_lt_of_le hb hB)
theorem ListAt.le {α : Type} {S : Shape α} {B B' : Nat} {w : World} {a : Option Addr} {n : Nat} {xs : List α} (h : ListAt S (Under B) w a n xs) (hB : B ≤ B') : ListAt S (Under B') w a n xs :=
  h.sub fun b hb => Nat.lt_of_lt_of_le hb hB
theorem Shape.below {α : Type} (S : Shape α) {B B' : Nat} {w w' : World} {cs : List Value} {d : α} (h : S.reads (Under B) w cs d) (hw : Below B' w w') (hB : B ≤ B') : S.reads (Under B) w' cs d :=
  S.keep h (.of_below hw fun b hb => Nat.lt_of_lt_of_le hb hB)
theorem Shape.le {α : Type} (S : Shape α) {B B' : Nat} {w : World} {cs : List Value} {d : α} (h : S.reads (Under B) w cs d) (hB : B ≤ B') : S.reads (Under B') w cs d :=
  S.sub h fun b hb => Nat.lt_of_lt_of_le hb hB

namespace Shape
def int : Shape Int where
  size := 1
  reads := fun _ _ cs x => cs = [.int .i64 x]
  fits := fun P t => match P.underlying t with | some (.int .i64) => true | _ => false
  bulk := fun _ => 0
  len := by rintro _ _ _ _ rfl; rfl
  keep := fun h _ => h
  sub := fun h _ => h
  opens := by
    intro H enc P w base spare held fuel t cs x hf h
    split at hf
    · rename_i ht
      obtain ⟨n, hn, _⟩ := DataW.trod_int ht h
      exact ⟨n, hn⟩
    · cases hf
def bool : Shape Bool where
  size := 1
  reads := fun _ _ cs x => cs = [.bool x]
  fits := fun P t => match P.underlying t with | some .bool => true | _ => false
  bulk := fun _ => 0
  len := by rintro _ _ _ _ rfl; rfl
  keep := fun h _ => h
  sub := fun h _ => h
  opens := by
    intro H enc P w base spare held fuel t cs x hf h
    split at hf
    · rename_i ht
      obtain ⟨n, hn, _⟩ := DataW.trod_bool ht h
      exact ⟨n, hn⟩
    · cases hf

/-- From 'for each place there is one' to a list. -/
theorem list_of {α : Type} {p : Nat → α → Prop} (n : Nat) (h : ∀ j, j < n → ∃ x, p j x) : ∃ xs : List α, xs.length = n ∧ ∀ j x, xs[j]? = some x → p j x := by
  induction n with
  | zero => exact ⟨[], rfl, fun j x hx => by simp at hx⟩
  | succ n ih =>
    obtain ⟨xs, hl, hp⟩ := ih fun j hj => h j (by omega)
    obtain ⟨x, hx⟩ := h n (by omega)
    refine ⟨xs ++ [x], by simp [hl], fun j y hy => ?_⟩
    by_cases hj : j < n
    · rw [List.getElem?_append_left (by omega)] at hy
      exact hp j y hy
    · have hjn : j = n := by
        have := (List.getElem?_eq_some_iff.1 hy).1
        simp [hl] at this
        omega
      subst hjn
      rw [List.getElem?_append_right (by omega), hl, Nat.sub_self] at hy
      cases hy
      exact hx
def sum {α : Type} (f : α → Nat) : List α → Nat
  | [] => 0
  | x :: xs => f x + sum f xs
theorem sum_append {α : Type} (f : α → Nat) (xs ys : List α) : sum f (xs ++ ys) = sum f xs + sum f ys := by
  induction xs with
  | nil => simp [sum]
  | cons x xs ih => simp only [List.cons_append, sum, ih]; omega

def list {α : Type} (S : Shape α) : Shape (List α) where
  size := 1
  reads := fun I w cs xs => ∃ a n c, cs = [.slice a n c] ∧ n ≤ c ∧ c ≤ 9223372036854775807 ∧ ListAt S I w a n xs
  fits := fun P t => match P.underlying t with | some (.slice e) => P.cellsOf e == S.size && (decide (0 < S.size) && S.fits P e) | _ => false
  bulk := fun xs => xs.length + sum S.bulk xs
  len := by rintro _ _ _ _ ⟨_, _, _, rfl, _⟩; rfl
  keep := by
    rintro I w w' cs d ⟨a, n, c, e, h1, h2, h3⟩ hw
    exact ⟨a, n, c, e, h1, h2, h3.keep hw⟩
  sub := by
    rintro I J w cs d ⟨a, n, c, e, h1, h2, h3⟩ hI
    exact ⟨a, n, c, e, h1, h2, h3.sub hI⟩
  opens := by
    intro H enc P w base spare held fuel t cs x hf h
    split at hf
    · rename_i e ht
      simp only [Bool.and_eq_true, beq_iff_eq, decide_eq_true_eq] at hf
      obtain ⟨hc, h0, hfe⟩ := hf
      rcases Deep.open_slice ht h with ⟨rfl, _⟩ | ⟨a, len, cap, m, n, D, Pl, rfl, hb, hl, hm, hmm, _, hx⟩
      · exact ⟨[], none, 0, 0, rfl, Nat.le_refl _, by omega, rfl, fun j x hx => by simp at hx⟩
      · have hlm : len ≤ m := by rw [hmm]; split <;> omega
        have hx' := fun i (hi : i < len) => hx i (by omega)
        obtain ⟨xs, hxl, hxs⟩ := list_of (p := fun j x => ∃ es, w.cells? base (a.add (j * P.cellsOf e)) (P.cellsOf e) = some es ∧ S.reads (Under w.heap.size) w es x) len fun j hj => by
          obtain ⟨cs', h1, h2⟩ := hx j (by omega)
          obtain ⟨d, hd⟩ := S.opens hfe h2
          exact ⟨d, cs', h1, hd⟩
        unfold maxLen at hm
        refine ⟨xs, some a, len, cap, rfl, hl, by omega, hxl, fun j x hjx => ?_⟩
        obtain ⟨es, h1, h2⟩ := hxs j x hjx
        obtain ⟨_, hel, hcell⟩ := World.cells?_some h1
        have hes := S.len h2
        obtain ⟨b, o, spot⟩ := a
        have hc0 := hcell 0 (by omega)
        rw [List.getElem?_eq_getElem (by omega)] at hc0
        have hspot : spot = none := by
          have hjl : j < len := by rw [← hxl]; exact (List.getElem?_eq_some_iff.1 hjx).1
          obtain ⟨c0, k1, k2⟩ := hx' 0 (by omega)
          obtain ⟨_, kel, kcell⟩ := World.cells?_some k1
          have kc := kcell 0 (by omega)
          rw [List.getElem?_eq_getElem (by omega)] at kc
          have := World.cell?_spot kc
          simpa [Addr.add] using this
        subst hspot
        simp only [Addr.add_mid] at hcell hc0
        refine ⟨b, o, es, rfl, World.block_lt_of_cell? w _ hc0, fun i v hv => ?_, h2⟩
        have hi := (List.getElem?_eq_some_iff.1 hv).1
        rw [← hc]
        rw [hcell i (by omega)]
        exact hv
    · cases hf
end Shape

/-- The fields of a struct, from one offset on. -/
structure FieldsOf (α : Type) : Type 1 where
  size : Nat
  reads : (Nat → Prop) → World → List Value → α → Prop
  fits : Program → List Field → Nat → Bool
  bulk : α → Nat
  len : ∀ {I w cs d}, reads I w cs d → cs.length = size
  keep : ∀ {I w w' cs d}, reads I w cs d → Kept I w w' → reads I w' cs d
  sub : ∀ {I J : Nat → Prop} {w cs d}, reads I w cs d → (∀ b, I b → J b) → reads J w cs d
  opens : ∀ {H : Type} {enc : TypeId × Value → H} {P : Program} {w : World} {base : Nat} {spare : Nat → Bool} {held : Bool} {fuel : Nat} {fs : List Field} {off : Nat} {cs : List Value},
    fits P fs off = true → cs.length = off + size → (∀ f ∈ fs, ∃ y, DataW.trod enc P w base spare held fuel f.type ((cs.drop f.offset).take (P.cellsOf f.type)) = some y) → ∃ d, reads (Under w.heap.size) w (cs.drop off) d

namespace FieldsOf
def last {α : Type} (S : Shape α) : FieldsOf α where
  size := S.size
  reads := S.reads
  fits := fun P fs off => match fs with | [f] => f.offset == off && (P.cellsOf f.type == S.size && S.fits P f.type) | _ => false
  bulk := S.bulk
  len := S.len
  keep := S.keep
  sub := S.sub
  opens := by
    intro H enc P w base spare held fuel fs off cs hf hl h
    split at hf
    · rename_i f
      simp only [Bool.and_eq_true, beq_iff_eq] at hf
      obtain ⟨h1, h2, h3⟩ := hf
      obtain ⟨y, hy⟩ := h f (by simp)
      obtain ⟨d, hd⟩ := S.opens h3 hy
      rw [h1, h2, List.take_of_length_le (by simp; omega)] at hd
      exact ⟨d, hd⟩
    · cases hf
def cons {α β : Type} (S : Shape α) (F : FieldsOf β) : FieldsOf (α × β) where
  size := S.size + F.size
  reads := fun I w cs d => ∃ c1 c2, cs = c1 ++ c2 ∧ S.reads I w c1 d.1 ∧ F.reads I w c2 d.2
  fits := fun P fs off => match fs with | f :: r => f.offset == off && (P.cellsOf f.type == S.size && (S.fits P f.type && F.fits P r (off + S.size))) | _ => false
  bulk := fun d => S.bulk d.1 + F.bulk d.2
  len := by
    rintro B w cs d ⟨c1, c2, rfl, h1, h2⟩
    rw [List.length_append, S.len h1, F.len h2]
  keep := by
    rintro I w w' cs d ⟨c1, c2, e, h1, h2⟩ hw
    exact ⟨c1, c2, e, S.keep h1 hw, F.keep h2 hw⟩
  sub := by
    rintro I J w cs d ⟨c1, c2, e, h1, h2⟩ hI
    exact ⟨c1, c2, e, S.sub h1 hI, F.sub h2 hI⟩
  opens := by
    intro H enc P w base spare held fuel fs off cs hf hl h
    split at hf
    · rename_i f r
      simp only [Bool.and_eq_true, beq_iff_eq] at hf
      obtain ⟨h1, h2, h3, h4⟩ := hf
      obtain ⟨y, hy⟩ := h f (by simp)
      obtain ⟨d, hd⟩ := S.opens h3 hy
      obtain ⟨d', hd'⟩ := F.opens h4 (cs := cs) (by omega) (fun g hg => h g (List.mem_cons_of_mem _ hg))
      rw [h1, h2] at hd
      refine ⟨(d, d'), _, _, ?_, hd, hd'⟩
      rw [← List.drop_drop, List.take_append_drop]
    · cases hf
end FieldsOf
namespace Shape
def struct {α : Type} (F : FieldsOf α) : Shape α where
  size := F.size
  reads := F.reads
  fits := fun P t => match P.underlying t with | some (.struct fs) => P.cellsOf t == F.size && F.fits P fs.toList 0 | _ => false
  bulk := F.bulk
  len := F.len
  keep := F.keep
  sub := F.sub
  opens := by
    intro H enc P w base spare held fuel t cs x hf h
    split at hf
    · rename_i fs ht
      simp only [Bool.and_eq_true, beq_iff_eq] at hf
      obtain ⟨xs, n, hn, _, hl, hxl, hx⟩ := DataW.trod_struct ht h
      have := F.opens hf.2 (cs := cs) (w := w) (enc := enc) (base := base) (spare := spare) (held := held) (fuel := n) (by omega) (fun f hfm => by
        obtain ⟨i, hi⟩ := List.mem_iff_getElem?.1 hfm
        have hi' : fs[i]? = some f := by simpa using hi
        have hlt : i < fs.size := by
          have := (Array.getElem?_eq_some_iff.1 hi').1
          exact this
        rw [hx i f hi', List.getElem?_eq_getElem (by omega)]
        exact ⟨_, rfl⟩)
      simpa using this
    · cases hf
end Shape

/-- A row of numbers of a bounded length is what the walks over rows are told. -/
theorem ListAt.ints {B : Nat} {w : World} {a : Option Addr} {n : Nat} {xs : List Int} (h : ListAt Shape.int (Under B) w a n xs) (hr : n ≤ 1048576) : IntsIn B w a n xs :=
  ⟨h.1, hr, fun j hj => by
    have hx : xs[j]? = some (xs.getD j 0) := by
      rw [List.getElem?_eq_getElem (by rw [h.1]; exact hj)]
      simp [List.getD, h.1, hj]
    obtain ⟨b, o, es, e, hb, hr, hs⟩ := h.2 j _ hx
    have hs' : es = [.int .i64 (xs.getD j 0)] := hs
    subst hs'
    refine ⟨b, o, e, hb, ?_⟩
    have := hr 0 _ rfl
    simpa [Shape.int] using this⟩
end Go.Proofs.Ytcooobnaocbdjaa

end

/-! YtcooobnaocbdjaaPFill -/
section

namespace Go.Proofs.Ytcooobnaocbdjaa
open Go.RowKit
set_option linter.unusedVariables false

theorem run_make_many {P : Program} (t e : TypeId) (z : Value) (size bytes : Nat) (ht : P.underlying t = some (.slice e)) (hinfo : (P.info? e).map (fun i => (i.zero, i.size, i.bytes)) = some (some z, size, bytes))
    (n : Nat) (hbytes : bytes * n ≤ 281474976710656) (h63 : n ≤ 9223372036854775807) (w : World) :
    (Instr.makeSlice t (.int .i64 (n : Int)) (.int .i64 (n : Int))).run P w = .ok (.slice (some ⟨w.heap.size, 0, none⟩) n n) (w.alloc (.cells (madeCells z.cells (n * size)) e)) := by
  obtain ⟨i, hi, hzz⟩ := Option.map_eq_some_iff.1 hinfo
  simp only [Prod.mk.injEq] at hzz
  obtain ⟨hz, hs, hb⟩ := hzz
  have hb' : (i.bytes : Int) * (n : Int) ≤ 281474976710656 := by
    have h : ((i.bytes * n : Nat) : Int) ≤ 281474976710656 := by rw [hb]; omega
    rwa [Int.natCast_mul] at h
  have hr := run_make (P := P) w t e i z ht hi hz .i64 .i64 n n (by omega) (Int.le_refl _) hb' (by omega)
  simp only [Int.toNat_natCast, hs] at hr
  exact hr
theorem there_below {B : Nat} {w w' : World} {b o n : Nat} (h : w.there b o n) (hw : Below B w w') (hb : b < B) : w'.there b o n := fun j hj => by
  have h0 := h j hj
  rw [hw.cell (p := ⟨b, o + j, none⟩) hb, hw.frozen (p := ⟨b, o + j, none⟩) hb]
  exact h0
theorem there_part {w : World} {b o n o' n' : Nat} (h : w.there b o n) (h0 : o ≤ o') (h1 : o' + n' ≤ o + n) : w.there b o' n' := fun j hj => by
  have := h (o' + j - o) (by omega)
  rwa [show o + (o' + j - o) = o' + j by omega] at this
/-- The cells of what is there. -/
theorem there_cell {w : World} {b o n : Nat} (h : w.there b o n) (j : Nat) (hj : j < n) : (∃ v, w.cell? ⟨b, o + j, none⟩ = some v) ∧ w.frozen? ⟨b, o + j, none⟩ = false := by
  obtain ⟨h0, h1⟩ := h j hj
  exact ⟨Option.isSome_iff_exists.1 h0, h1⟩

/-- The first k places of a list that is made are filled: it lies in the block behind w; what its places lead to lies behind that. -/
structure Filled {α : Type} (S : Shape α) (w wr : World) (n k : Nat) (xs : List α) : Prop where
  below : Below w.heap.size w wr
  lt : w.heap.size < wr.heap.size
  done : ∀ j x, j < k → xs[j]? = some x → ∃ es, wr.rangeAt w.heap.size (j * S.size) es ∧ S.reads (From (w.heap.size + 1) wr.heap.size) wr es x
  rest : wr.there w.heap.size (k * S.size) ((n - k) * S.size)
theorem Filled.start {α : Type} (S : Shape α) (w : World) (n : Nat) (xs : List α) (z : Array Value) (e : TypeId) : Filled S w (w.alloc (.cells (madeCells z (n * S.size)) e)) n 0 xs where
  below := (Below.refl _ _).alloc (Nat.le_refl _) _
  lt := by simp
  done := fun j x hj => absurd hj (Nat.not_lt_zero _)
  rest := fun j hj => by
    have hj' : j < n * S.size := by simpa using hj
    have hb := heap_alloc_new w (.cells (madeCells z (n * S.size)) e)
    constructor
    · rw [cell_of_row _ _ _ _ _ _ hb]
      have : 0 * S.size + j < (madeCells z (n * S.size)).size := by rw [size_madeCells]; omega
      rw [Array.getElem?_eq_getElem this]
      rfl
    · exact frozen_of_row _ _ _ _ _ hb
theorem heap_setCells_other (g : Nat) : ∀ (cs : List Value) (o : Nat) (w : World) (b : Nat), b ≠ g → (w.setCells g o cs).heap[b]? = w.heap[b]?
  | [], _, _, _, _ => rfl
  | v :: vs, o, w, b, hb => by rw [World.setCells, heap_setCells_other g vs (o + 1) _ b hb]; exact Below.heap_setCell _ _ _ _ hb
theorem below_setCells {B : Nat} {a : World} (g : Nat) (hB : B ≤ g) : ∀ (cs : List Value) (o : Nat) (w : World), Below B a w → Below B a (w.setCells g o cs)
  | [], _, _, h => h
  | v :: vs, o, w, h => below_setCells g hB vs (o + 1) _ (h.setCell (p := ⟨g, o, none⟩) hB v)
theorem size_setCells (g : Nat) : ∀ (cs : List Value) (o : Nat) (w : World), (w.setCells g o cs).heap.size = w.heap.size
  | [], _, _ => rfl
  | v :: vs, o, w => by rw [World.setCells, size_setCells g vs (o + 1)]; simp
theorem Filled.step {α : Type} {S : Shape α} {w wr w1 : World} {n k : Nat} {xs : List α} {es : List Value} {x : α} (h : Filled S w wr n k xs) (hk : k < n) (hb : Below wr.heap.size wr w1) (hx : xs[k]? = some x)
    (hs : S.reads (From wr.heap.size w1.heap.size) w1 es x) : Filled S w (w1.setCells w.heap.size (k * S.size) es) n (k + 1) xs := by
  have hl := S.len hs
  have hlt := h.lt
  have hsz := hb.size
  have hmul : (n - k) * S.size = (n - (k + 1)) * S.size + S.size := by rw [show n - k = (n - (k + 1)) + 1 by omega, Nat.add_mul, Nat.one_mul]
  have hk1 : (k + 1) * S.size = k * S.size + S.size := by rw [Nat.add_mul, Nat.one_mul]
  have hth : w1.there w.heap.size (k * S.size) ((n - k) * S.size) := there_below h.rest hb hlt
  have hss := size_setCells w.heap.size es (k * S.size) w1
  refine ⟨below_setCells _ (Nat.le_refl _) _ _ _ (h.below.trans (hb.mono (Nat.le_of_lt hlt))), by omega, fun j y hj hy => ?_, ?_⟩
  · by_cases hjk : j < k
    · obtain ⟨es', hr, hs'⟩ := h.done j y hjk hy
      have hjl : j * S.size + S.size ≤ k * S.size := by
        have := Nat.mul_le_mul_right S.size (show j + 1 ≤ k by omega)
        rwa [Nat.add_mul, Nat.one_mul] at this
      refine ⟨es', World.rangeAt_setCells_apart (fun i v hv => (hb.cell (p := ⟨w.heap.size, j * S.size + i, none⟩) hlt).trans (hr i v hv)) _ _ _ (.inr (.inl (by rw [S.len hs']; exact hjl))), ?_⟩
      refine S.sub (S.keep hs' fun b hb' => ?_) fun b hb' => ⟨hb'.1, by rw [hss]; exact Nat.lt_of_lt_of_le hb'.2 hsz⟩
      rw [heap_setCells_other _ _ _ _ _ (by have := hb'.1; omega)]
      exact hb.block b hb'.2
    · obtain rfl : j = k := by omega
      rw [hx] at hy
      cases hy
      refine ⟨es, World.rangeAt_setCells_same _ _ _ _ (there_part hth (Nat.le_refl _) (by omega)), ?_⟩
      refine S.sub (S.keep hs fun b hb' => ?_) fun b hb' => ⟨by have := hb'.1; omega, by rw [hss]; exact hb'.2⟩
      exact heap_setCells_other _ _ _ _ _ (by have := hb'.1; omega)
  · exact World.there_setCells (there_part hth (by omega) (by omega)) _ _ _
theorem Filled.list {α : Type} {S : Shape α} {w wr : World} {n : Nat} {xs : List α} (h : Filled S w wr n n xs) (hl : xs.length = n) : ListAt S (From w.heap.size wr.heap.size) wr (some ⟨w.heap.size, 0, none⟩) n xs :=
  ⟨hl, fun j x hx => by
    obtain ⟨es, hr, hs⟩ := h.done j x (by rw [← hl]; exact (List.getElem?_eq_some_iff.1 hx).1) hx
    exact ⟨w.heap.size, 0, es, rfl, ⟨Nat.le_refl _, h.lt⟩, by rwa [Nat.zero_add], S.sub hs fun b hb => ⟨by have := hb.1; omega, hb.2⟩⟩⟩

/-! ### What is left behind so many places -/
def szN (b : Nat) (L : Int) : Int := if (b : Int) ≤ L then L - b else -1
theorem szN_yes {b : Nat} {L : Int} (h : (b : Int) ≤ L) : szN b L = L - b := if_pos h
theorem szN_no {b : Nat} {L : Int} (h : ¬ (b : Int) ≤ L) : szN b L = -1 := if_neg h
theorem sum_zero {α : Type} (xs : List α) : Shape.sum (fun _ => 0) xs = 0 := by
  induction xs with
  | nil => rfl
  | cons x xs ih => simp [Shape.sum, ih]
theorem bulk_ints (xs : List Int) : (Shape.list Shape.int).bulk xs = xs.length := by
  show xs.length + Shape.sum (fun _ => 0) xs = xs.length
  rw [sum_zero]
  rfl
theorem sum_take {α : Type} (f : α → Nat) (xs : List α) (k : Nat) (x : α) (h : xs[k]? = some x) : Shape.sum f (xs.take (k + 1)) = Shape.sum f (xs.take k) + f x := by
  rw [List.take_add_one, h, Shape.sum_append]
  simp [Shape.sum]
theorem sum_take_le {α : Type} (f : α → Nat) (xs : List α) (k : Nat) : Shape.sum f (xs.take k) ≤ Shape.sum f xs := by
  have := Shape.sum_append f (xs.take k) (xs.drop k)
  rw [List.take_append_drop] at this
  omega
theorem bulk_mem {α : Type} (f : α → Nat) (xs : List α) (k : Nat) (x : α) (h : xs[k]? = some x) : f x ≤ Shape.sum f xs := by
  have h1 := sum_take f xs k x h
  have h2 := sum_take_le f xs (k + 1)
  omega
theorem bulk_list {α : Type} (S : Shape α) {I : Nat → Prop} {w : World} {a : Option Addr} {n : Nat} {xs : List α} (h : ListAt S I w a n xs) : (Shape.list S).bulk xs = n + Shape.sum S.bulk xs := by
  rw [← h.1]
  rfl

/-! ### A struct that is made in a variable of its own: the box of the argument, the box of the result, the variable -/
structure Boxes (w wr : World) (A Z O : Array Value) (TA T : TypeId) : Prop where
  below : Below w.heap.size w wr
  size : w.heap.size + 3 ≤ wr.heap.size
  a : wr.heap[w.heap.size]? = some (.cells A TA (0, 0))
  z : wr.heap[w.heap.size + 1]? = some (.cells Z T (0, 0))
  o : wr.heap[w.heap.size + 1 + 1]? = some (.cells O T (0, 0))
theorem Boxes.start (w : World) (A Z O : Array Value) (TA T : TypeId) : Boxes w (((w.alloc (.cells A TA (0, 0))).alloc (.cells Z T (0, 0))).alloc (.cells O T (0, 0))) A Z O TA T where
  below := (((Below.refl _ _).alloc (Nat.le_refl _) _).alloc (by simp) _).alloc (by simp; omega) _
  size := by simp
  a := by
    rw [Below.heap_alloc _ _ _ (by simp; omega), Below.heap_alloc _ _ _ (by simp)]
    exact heap_alloc_new w _
  z := by
    rw [Below.heap_alloc _ _ _ (by simp)]
    have := heap_alloc_new (w.alloc (.cells A TA (0, 0))) (.cells Z T (0, 0))
    simpa using this
  o := by
    have := heap_alloc_new ((w.alloc (.cells A TA (0, 0))).alloc (.cells Z T (0, 0))) (.cells O T (0, 0))
    simpa using this
theorem Boxes.call {w wr w1 : World} {A Z O : Array Value} {TA T : TypeId} (h : Boxes w wr A Z O TA T) (hb : Below wr.heap.size wr w1) : Boxes w w1 A Z O TA T := by
  have hs := h.size
  exact ⟨h.below.trans (hb.mono (by omega)), Nat.le_trans hs hb.size, (hb.block _ (by omega)).trans h.a, (hb.block _ (by omega)).trans h.z, (hb.block _ (by omega)).trans h.o⟩
theorem Boxes.store {w wr : World} {A Z O : Array Value} {TA T : TypeId} (h : Boxes w wr A Z O TA T) (i : Nat) (v : Value) : Boxes w (wr.setCell ⟨w.heap.size + 1 + 1, i, none⟩ v) A Z (O.setIfInBounds i v) TA T :=
  ⟨h.below.setCell (p := ⟨w.heap.size + 1 + 1, i, none⟩) (by show w.heap.size ≤ w.heap.size + 1 + 1; omega) v, by have := h.size; simpa using this,
    (heap_setCell_other _ _ _ _ (by show w.heap.size ≠ w.heap.size + 1 + 1; omega)).trans h.a, (heap_setCell_other _ _ _ _ (by show w.heap.size + 1 ≠ w.heap.size + 1 + 1; omega)).trans h.z,
    heap_setCell_same wr _ i O T v h.o⟩
theorem heap_setCells_all (g : Nat) (T : TypeId) : ∀ (vs pre old : List Value) (w : World), old.length = vs.length → w.heap[g]? = some (.cells (pre ++ old).toArray T (0, 0)) → (w.setCells g pre.length vs).heap[g]? = some (.cells (pre ++ vs).toArray T (0, 0))
  | [], pre, old, w, hl, h => by
    obtain rfl : old = [] := List.eq_nil_of_length_eq_zero hl
    exact h
  | v :: vs, pre, [], w, hl, h => by simp at hl
  | v :: vs, pre, u :: us, w, hl, h => by
    have h1 := heap_setCell_same w g pre.length _ T v h
    have h2 := heap_setCells_all g T vs (pre ++ [v]) us (w.setCell ⟨g, pre.length, none⟩ v) (by simpa using hl) (by
      rw [h1]
      simp)
    rw [List.length_append, List.length_singleton] at h2
    rw [World.setCells, h2]
    simp
theorem Boxes.result {w wr : World} {A Z O : Array Value} {TA T : TypeId} (h : Boxes w wr A Z O TA T) (vs : List Value) (hl : Z.size = vs.length) : (wr.setCells (w.heap.size + 1) 0 vs).heap[w.heap.size + 1]? = some (.cells vs.toArray T (0, 0)) := by
  have := heap_setCells_all (w.heap.size + 1) T vs [] Z.toList wr (by simpa using hl) (by simpa using h.z)
  simpa using this
theorem Boxes.last {w wr : World} {A Z O : Array Value} {TA T : TypeId} (h : Boxes w wr A Z O TA T) (vs : List Value) : Below w.heap.size w (wr.setCells (w.heap.size + 1) 0 vs) := below_setCells _ (by omega) _ _ _ h.below
/-- What lies behind the boxes stays there. -/
theorem ListAt.called {α : Type} {S : Shape α} {lo : Nat} {wr w1 : World} {a : Option Addr} {n : Nat} {xs : List α} (h : ListAt S (From lo wr.heap.size) wr a n xs) (hb : Below wr.heap.size wr w1) : ListAt S (From lo w1.heap.size) w1 a n xs :=
  (h.keep (fun b hb' => hb.block b hb'.2)).sub fun b hb' => ⟨hb'.1, Nat.lt_of_lt_of_le hb'.2 hb.size⟩
theorem ListAt.stored {α : Type} {S : Shape α} {lo : Nat} {wr : World} {a : Option Addr} {n : Nat} {xs : List α} (h : ListAt S (From lo wr.heap.size) wr a n xs) (g i : Nat) (v : Value) (hg : g < lo) : ListAt S (From lo (wr.setCell ⟨g, i, none⟩ v).heap.size) (wr.setCell ⟨g, i, none⟩ v) a n xs := by
  rw [show (wr.setCell ⟨g, i, none⟩ v).heap.size = wr.heap.size by simp]
  exact h.keep fun b hb' => heap_setCell_other _ _ _ _ (by have := hb'.1; show b ≠ g; omega)
theorem ListAt.storedAll {α : Type} {S : Shape α} {lo : Nat} {wr : World} {a : Option Addr} {n : Nat} {xs : List α} (h : ListAt S (From lo wr.heap.size) wr a n xs) (g i : Nat) (vs : List Value) (hg : g < lo) : ListAt S (From lo (wr.setCells g i vs).heap.size) (wr.setCells g i vs) a n xs := by
  rw [size_setCells]
  exact h.keep fun b hb' => heap_setCells_other _ _ _ _ _ (by have := hb'.1; omega)
theorem ListAt.lo {α : Type} {S : Shape α} {lo lo' hi : Nat} {w : World} {a : Option Addr} {n : Nat} {xs : List α} (h : ListAt S (From lo hi) w a n xs) (hl : lo' ≤ lo) : ListAt S (From lo' hi) w a n xs := h.sub fun b hb => ⟨Nat.le_trans hl hb.1, hb.2⟩
theorem ListAt.under {α : Type} {S : Shape α} {lo hi : Nat} {w : World} {a : Option Addr} {n : Nat} {xs : List α} (h : ListAt S (From lo hi) w a n xs) : ListAt S (Under hi) w a n xs := h.sub fun b hb => hb.2
theorem Shape.under {α : Type} (S : Shape α) {lo hi : Nat} {w : World} {cs : List Value} {d : α} (h : S.reads (From lo hi) w cs d) : S.reads (Under hi) w cs d := S.sub h fun b hb => hb.2
end Go.Proofs.Ytcooobnaocbdjaa

end
