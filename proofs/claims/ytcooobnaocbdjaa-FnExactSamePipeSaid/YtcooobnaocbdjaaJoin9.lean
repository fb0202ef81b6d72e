import Derived.Test.YtcooobnaocbdjaaJoin2
import Derived.Maps.AppendAt
import Derived.Laws.OwnMore
/-! YtcooobnaocbdjaaPOwn -/
section

namespace Go.Proofs.Ytcooobnaocbdjaa
open Go.RowKit
set_option linter.unusedVariables false

/-- A set of cells. -/
abbrev Foot := Nat → Nat → Prop
def Apart (F G : Foot) : Prop := ∀ b o, F b o → G b o → False
theorem Apart.symm {F G : Foot} (h : Apart F G) : Apart G F := fun b o g f => h b o f g
theorem Apart.sub {F G F' G' : Foot} (h : Apart F G) (hF : ∀ b o, F' b o → F b o) (hG : ∀ b o, G' b o → G b o) : Apart F' G' := fun b o f g => h b o (hF b o f) (hG b o g)
/-- The cells of a set are as they were. -/
def SameAt (F : Foot) (w w' : World) : Prop := ∀ b o, F b o → w'.cell? ⟨b, o, none⟩ = w.cell? ⟨b, o, none⟩ ∧ w'.frozen? ⟨b, o, none⟩ = w.frozen? ⟨b, o, none⟩
theorem SameAt.sub {F G : Foot} {w w' : World} (h : SameAt F w w') (hG : ∀ b o, G b o → F b o) : SameAt G w w' := fun b o g => h b o (hG b o g)
theorem SameAt.trans {F : Foot} {a b c : World} (h : SameAt F a b) (k : SameAt F b c) : SameAt F a c := fun x o f => ⟨(k x o f).1.trans (h x o f).1, (k x o f).2.trans (h x o f).2⟩
theorem SameAt.of_below {F : Foot} {B : Nat} {w w' : World} (h : Below B w w') (hF : ∀ b o, F b o → b < B) : SameAt F w w' := fun b o f => ⟨h.cell (p := ⟨b, o, none⟩) (hF b o f), h.frozen (p := ⟨b, o, none⟩) (hF b o f)⟩
/-- Nothing but the cells of a set was written. -/
structure Touched (F : Foot) (w w' : World) : Prop where
  os : w'.os = w.os
  tape : w'.tape = w.tape
  output : w'.output = w.output
  size : w'.heap.size = w.heap.size
  cell : ∀ b o, ¬ F b o → w'.cell? ⟨b, o, none⟩ = w.cell? ⟨b, o, none⟩
  frozen : ∀ b o, w'.frozen? ⟨b, o, none⟩ = w.frozen? ⟨b, o, none⟩
  block : ∀ b, (∀ o, ¬ F b o) → w'.heap[b]? = w.heap[b]?
  some : ∀ b o, (w.cell? ⟨b, o, none⟩).isSome = true → (w'.cell? ⟨b, o, none⟩).isSome = true
theorem Touched.refl (F : Foot) (w : World) : Touched F w w := ⟨rfl, rfl, rfl, rfl, fun _ _ _ => rfl, fun _ _ => rfl, fun _ _ => rfl, fun _ _ h => h⟩
theorem Touched.trans {F : Foot} {a b c : World} (h : Touched F a b) (k : Touched F b c) : Touched F a c :=
  ⟨k.os.trans h.os, k.tape.trans h.tape, k.output.trans h.output, k.size.trans h.size, fun x o f => (k.cell x o f).trans (h.cell x o f), fun x o => (k.frozen x o).trans (h.frozen x o), fun x f => (k.block x f).trans (h.block x f), fun x o s => k.some x o (h.some x o s)⟩
theorem Touched.mono {F G : Foot} {w w' : World} (h : Touched F w w') (hG : ∀ b o, F b o → G b o) : Touched G w w' :=
  ⟨h.os, h.tape, h.output, h.size, fun b o g => h.cell b o fun f => g (hG b o f), h.frozen, fun b g => h.block b fun o f => g o (hG b o f), h.some⟩
theorem Touched.same {F G : Foot} {w w' : World} (h : Touched F w w') (hA : Apart F G) : SameAt G w w' := fun b o g => ⟨h.cell b o fun f => hA b o f g, h.frozen b o⟩
theorem Touched.below {F : Foot} {B : Nat} {w w' : World} (h : Touched F w w') (hF : ∀ b o, F b o → B ≤ b) : Below B w w' :=
  ⟨h.os, h.tape, h.output, Nat.le_of_eq h.size.symm, fun b hb => h.block b fun o f => by have := hF b o f; omega⟩
theorem Touched.set {F : Foot} (w : World) (b o : Nat) (v : Value) (hF : F b o) : Touched F w (w.setCell ⟨b, o, none⟩ v) where
  os := rfl
  tape := rfl
  output := rfl
  size := by simp
  cell := fun b' o' h => World.cell?_setCell_other _ _ _ _ fun e => h (by cases e; exact hF)
  frozen := fun b' o' => by rw [World.frozen?_setCell]
  block := fun b' h => heap_setCell_other _ _ _ _ fun e => h o (by have e' : b' = b := e; rw [e']; exact hF)
  some := fun b' o' h => World.isSome_setCells b [v] o w ⟨b', o', none⟩ h
theorem Touched.there {F : Foot} {w w' : World} {b o n : Nat} (h : Touched F w w') (ht : w.there b o n) : w'.there b o n := fun j hj => ⟨h.some b (o + j) (ht j hj).1, by rw [h.frozen b (o + j)]; exact (ht j hj).2⟩

/-- A shape that may be owned: the cells (a set) that a datum's lists take; what marking from k on makes of it (as a list's element; as a value by itself), how many numbers that takes. -/
structure Owned (α : Type) extends Shape α where
  owns : Foot → World → List Value → α → Prop
  mark : α → Int → α
  ct : α → Nat
  markT : α → Int → α
  ctT : α → Nat
  owns_len : ∀ {F w cs d}, owns F w cs d → cs.length = size
  owns_reads : ∀ {F w cs d} {I : Nat → Prop}, owns F w cs d → (∀ b o, F b o → I b) → reads I w cs d
  owns_keep : ∀ {F w w' cs d}, owns F w cs d → SameAt F w w' → owns F w' cs d
  owns_sub : ∀ {F G : Foot} {w cs d}, owns F w cs d → (∀ b o, F b o → G b o) → owns G w cs d

/-- The cells of n places from o on. -/
abbrev Cells (b o n : Nat) : Foot := fun b' o' => b' = b ∧ o ≤ o' ∧ o' < o + n
def OwnList {α : Type} (S : Owned α) (F : Foot) (w : World) (a : Option Addr) (n : Nat) (xs : List α) : Prop :=
  xs.length = n ∧ (n = 0 ∨ ∃ (b o : Nat) (G : Nat → Foot), a = some ⟨b, o, none⟩ ∧ (∀ i, i < n * S.size → F b (o + i)) ∧ w.there b o (n * S.size) ∧ (∀ j x, xs[j]? = some x → ∃ es, w.rangeAt b (o + j * S.size) es ∧ S.owns (G j) w es x) ∧
    (∀ j b' o', G j b' o' → F b' o' ∧ ¬ Cells b o (n * S.size) b' o') ∧ ∀ j j', j ≠ j' → Apart (G j) (G j'))
theorem rangeAt_same {F : Foot} {w w' : World} {b o n : Nat} {es : List Value} (h : w.rangeAt b o es) (hF : ∀ i, i < n → F b (o + i)) (hn : es.length ≤ n) (hw : SameAt F w w') : w'.rangeAt b o es :=
  fun j v hv => (hw b (o + j) (hF j (Nat.lt_of_lt_of_le (List.getElem?_eq_some_iff.1 hv).1 hn))).1.trans (h j v hv)
theorem there_same {F : Foot} {w w' : World} {b o n : Nat} (h : w.there b o n) (hF : ∀ i, i < n → F b (o + i)) (hw : SameAt F w w') : w'.there b o n := fun j hj => by
  have h1 := hw b (o + j) (hF j hj)
  rw [h1.1, h1.2]
  exact h j hj
theorem place_le {j n s : Nat} (hj : j < n) : j * s + s ≤ n * s := by
  have := Nat.mul_le_mul_right s (show j + 1 ≤ n by omega)
  rwa [Nat.add_mul, Nat.one_mul] at this
theorem OwnList.keep {α : Type} {S : Owned α} {F : Foot} {w w' : World} {a : Option Addr} {n : Nat} {xs : List α} (h : OwnList S F w a n xs) (hw : SameAt F w w') : OwnList S F w' a n xs := by
  refine ⟨h.1, h.2.imp id ?_⟩
  rintro ⟨b, o, G, rfl, hF, hth, hx, hG, hA⟩
  refine ⟨b, o, G, rfl, hF, there_same hth hF hw, fun j x hjx => ?_, hG, hA⟩
  obtain ⟨es, hr, hs⟩ := hx j x hjx
  have hj : j < n := by rw [← h.1]; exact (List.getElem?_eq_some_iff.1 hjx).1
  have hp := place_le (s := S.size) hj
  exact ⟨es, rangeAt_same (F := F) (n := S.size) hr (fun i hi => by rw [Nat.add_assoc]; exact hF _ (by omega)) (Nat.le_of_eq (S.owns_len hs)) hw, S.owns_keep hs (hw.sub fun b' o' g => (hG j b' o' g).1)⟩
theorem OwnList.sub {α : Type} {S : Owned α} {F F' : Foot} {w : World} {a : Option Addr} {n : Nat} {xs : List α} (h : OwnList S F w a n xs) (hF : ∀ b o, F b o → F' b o) : OwnList S F' w a n xs := by
  refine ⟨h.1, h.2.imp id ?_⟩
  rintro ⟨b, o, G, rfl, hc, hth, hx, hG, hA⟩
  exact ⟨b, o, G, rfl, fun i hi => hF _ _ (hc i hi), hth, hx, fun j b' o' g => ⟨hF _ _ (hG j b' o' g).1, (hG j b' o' g).2⟩, hA⟩
theorem OwnList.listAt {α : Type} {S : Owned α} {F : Foot} {w : World} {a : Option Addr} {n : Nat} {xs : List α} {I : Nat → Prop} (h : OwnList S F w a n xs) (hI : ∀ b o, F b o → I b) (hS : 0 < S.size) : ListAt S.toShape I w a n xs := by
  refine ⟨h.1, fun j x hjx => ?_⟩
  have hj : j < n := by rw [← h.1]; exact (List.getElem?_eq_some_iff.1 hjx).1
  rcases h.2 with rfl | ⟨b, o, G, rfl, hc, hth, hx, hG, hA⟩
  · omega
  · obtain ⟨es, hr, hs⟩ := hx j x hjx
    have hp := place_le (s := S.size) hj
    exact ⟨b, o, es, rfl, hI b (o + 0) (hc 0 (by omega)), hr, S.owns_reads hs fun b' o' g => hI b' o' (hG j b' o' g).1⟩
/-- One place is written anew. -/
theorem OwnList.set {α : Type} {S : Owned α} {F : Foot} {w w' : World} {b o n : Nat} {G : Nat → Foot} {xs : List α} {k : Nat} {es' : List Value} {x' : α} (hl : xs.length = n) (hk : k < n)
    (hF : ∀ i, i < n * S.size → F b (o + i)) (hth : w.there b o (n * S.size)) (hx : ∀ j x, xs[j]? = some x → ∃ es, w.rangeAt b (o + j * S.size) es ∧ S.owns (G j) w es x)
    (hG : ∀ j b' o', G j b' o' → F b' o' ∧ ¬ Cells b o (n * S.size) b' o') (hA : ∀ j j', j ≠ j' → Apart (G j) (G j'))
    (hw : Touched (fun b' o' => Cells b (o + k * S.size) S.size b' o' ∨ G k b' o') w w') (hth' : w'.there b o (n * S.size)) (hr : w'.rangeAt b (o + k * S.size) es') (hs : S.owns (G k) w' es' x') :
    (∀ j x, (xs.set k x')[j]? = some x → ∃ es, w'.rangeAt b (o + j * S.size) es ∧ S.owns (G j) w' es x) := by
  intro j x hjx
  by_cases e : j = k
  · subst e
    rw [List.getElem?_set_self (by rw [hl]; exact hk)] at hjx
    cases hjx
    exact ⟨es', hr, hs⟩
  · rw [List.getElem?_set_ne (fun h => e h.symm)] at hjx
    obtain ⟨es, h1, h2⟩ := hx j x hjx
    have hj : j < n := by rw [← hl]; exact (List.getElem?_eq_some_iff.1 hjx).1
    have hp := place_le (s := S.size) hj
    have hpk := place_le (s := S.size) hk
    have hes := S.owns_len h2
    have hapart : j * S.size + S.size ≤ k * S.size ∨ k * S.size + S.size ≤ j * S.size := by
      rcases Nat.lt_or_gt_of_ne e with h | h
      · exact .inl (place_le (s := S.size) h)
      · exact .inr (place_le (s := S.size) h)
    refine ⟨es, fun i v hv => ?_, S.owns_keep h2 (hw.same ?_)⟩
    · have hi := (List.getElem?_eq_some_iff.1 hv).1
      rw [hw.cell b (o + j * S.size + i) ?_]
      · exact h1 i v hv
      · rintro (⟨-, c1, c2⟩ | g)
        · omega
        · exact (hG k b _ g).2 ⟨rfl, by omega, by omega⟩
    · rintro b' o' (⟨rfl, c1, c2⟩ | g) g'
      · exact (hG j _ _ g').2 ⟨rfl, by omega, by omega⟩
      · exact hA k j (Ne.symm e) _ _ g g'

namespace Owned
def int : Owned Int where
  toShape := Shape.int
  owns := fun _ _ cs x => cs = [.int .i64 x]
  mark := fun _ k => k
  ct := fun _ => 1
  markT := fun x _ => x
  ctT := fun _ => 0
  owns_len := by rintro _ _ _ _ rfl; rfl
  owns_reads := fun h _ => h
  owns_keep := fun h _ => h
  owns_sub := fun h _ => h
def bool : Owned Bool where
  toShape := Shape.bool
  owns := fun _ _ cs x => cs = [.bool x]
  mark := fun _ k => decide (k.tmod 3 = 0)
  ct := fun _ => 1
  markT := fun x _ => x
  ctT := fun _ => 0
  owns_len := by rintro _ _ _ _ rfl; rfl
  owns_reads := fun h _ => h
  owns_keep := fun h _ => h
  owns_sub := fun h _ => h
def mkL {α : Type} (mk : α → Int → α) (ct : α → Nat) : List α → Int → List α
  | [], _ => []
  | x :: xs, k => mk x k :: mkL mk ct xs (k + ct x)
def list {α : Type} (S : Owned α) (hS : 0 < S.size) : Owned (List α) where
  toShape := Shape.list S.toShape
  owns := fun F w cs xs => ∃ a n c, cs = [.slice a n c] ∧ n ≤ c ∧ c ≤ 9223372036854775807 ∧ OwnList S F w a n xs
  mark := mkL S.mark S.ct
  ct := Shape.sum S.ct
  markT := mkL S.mark S.ct
  ctT := Shape.sum S.ct
  owns_len := by rintro _ _ _ _ ⟨_, _, _, rfl, _⟩; rfl
  owns_reads := by
    rintro F w cs d I ⟨a, n, c, e, h1, h2, h3⟩ hI
    exact ⟨a, n, c, e, h1, h2, h3.listAt hI hS⟩
  owns_keep := by
    rintro F w w' cs d ⟨a, n, c, e, h1, h2, h3⟩ hw
    exact ⟨a, n, c, e, h1, h2, h3.keep hw⟩
  owns_sub := by
    rintro F G w cs d ⟨a, n, c, e, h1, h2, h3⟩ hG
    exact ⟨a, n, c, e, h1, h2, h3.sub hG⟩
end Owned

/-- The fields of a struct that is owned. -/
structure OwnedFields (α : Type) extends FieldsOf α where
  owns : Foot → World → List Value → α → Prop
  mark : α → Int → α
  ct : α → Nat
  markT : α → Int → α
  ctT : α → Nat
  owns_len : ∀ {F w cs d}, owns F w cs d → cs.length = size
  owns_reads : ∀ {F w cs d} {I : Nat → Prop}, owns F w cs d → (∀ b o, F b o → I b) → reads I w cs d
  owns_keep : ∀ {F w w' cs d}, owns F w cs d → SameAt F w w' → owns F w' cs d
  owns_sub : ∀ {F G : Foot} {w cs d}, owns F w cs d → (∀ b o, F b o → G b o) → owns G w cs d
namespace OwnedFields
def last {α : Type} (S : Owned α) : OwnedFields α where
  toFieldsOf := FieldsOf.last S.toShape
  owns := S.owns
  mark := S.mark
  ct := S.ct
  markT := S.markT
  ctT := S.ctT
  owns_len := S.owns_len
  owns_reads := S.owns_reads
  owns_keep := S.owns_keep
  owns_sub := S.owns_sub
def cons {α β : Type} (S : Owned α) (R : OwnedFields β) : OwnedFields (α × β) where
  toFieldsOf := FieldsOf.cons S.toShape R.toFieldsOf
  owns := fun F w cs d => ∃ c1 c2 G1 G2, cs = c1 ++ c2 ∧ S.owns G1 w c1 d.1 ∧ R.owns G2 w c2 d.2 ∧ (∀ b o, G1 b o → F b o) ∧ (∀ b o, G2 b o → F b o) ∧ Apart G1 G2
  mark := fun d k => (S.mark d.1 k, R.mark d.2 (k + S.ct d.1))
  ct := fun d => S.ct d.1 + R.ct d.2
  markT := fun d k => (S.markT d.1 k, R.markT d.2 (k + S.ctT d.1))
  ctT := fun d => S.ctT d.1 + R.ctT d.2
  owns_len := by
    rintro F w cs d ⟨c1, c2, G1, G2, rfl, h1, h2, -⟩
    rw [List.length_append, S.owns_len h1, R.owns_len h2]
    rfl
  owns_reads := by
    rintro F w cs d I ⟨c1, c2, G1, G2, e, h1, h2, g1, g2, -⟩ hI
    exact ⟨c1, c2, e, S.owns_reads h1 fun b o g => hI b o (g1 b o g), R.owns_reads h2 fun b o g => hI b o (g2 b o g)⟩
  owns_keep := by
    rintro F w w' cs d ⟨c1, c2, G1, G2, e, h1, h2, g1, g2, ga⟩ hw
    exact ⟨c1, c2, G1, G2, e, S.owns_keep h1 (hw.sub g1), R.owns_keep h2 (hw.sub g2), g1, g2, ga⟩
  owns_sub := by
    rintro F G w cs d ⟨c1, c2, G1, G2, e, h1, h2, g1, g2, ga⟩ hG
    exact ⟨c1, c2, G1, G2, e, h1, h2, fun b o g => hG b o (g1 b o g), fun b o g => hG b o (g2 b o g), ga⟩
end OwnedFields
namespace Owned
def struct {α : Type} (R : OwnedFields α) : Owned α where
  toShape := Shape.struct R.toFieldsOf
  owns := R.owns
  mark := R.mark
  ct := R.ct
  markT := R.markT
  ctT := R.ctT
  owns_len := R.owns_len
  owns_reads := R.owns_reads
  owns_keep := R.owns_keep
  owns_sub := R.owns_sub
end Owned

/-! ### Blocks from lo on, below hi -/
abbrev FromB (lo hi : Nat) : Foot := fun b _ => lo ≤ b ∧ b < hi
theorem OwnList.called {α : Type} {S : Owned α} {lo hi : Nat} {wr w1 : World} {a : Option Addr} {n : Nat} {xs : List α} (h : OwnList S (FromB lo hi) wr a n xs) (hb : Below wr.heap.size wr w1) (hh : hi ≤ wr.heap.size) : OwnList S (FromB lo hi) w1 a n xs :=
  h.keep (.of_below hb fun b o f => Nat.lt_of_lt_of_le f.2 hh)
theorem OwnList.stored {α : Type} {S : Owned α} {lo hi : Nat} {wr : World} {a : Option Addr} {n : Nat} {xs : List α} (h : OwnList S (FromB lo hi) wr a n xs) (g i : Nat) (v : Value) (hg : g < lo) : OwnList S (FromB lo hi) (wr.setCell ⟨g, i, none⟩ v) a n xs :=
  h.keep ((Touched.set (F := fun b _ => b = g) wr g i v rfl).same fun b o f f' => by
    have e : b = g := f
    have := f'.1
    omega)
theorem touched_setCells {F : Foot} (g : Nat) : ∀ (vs : List Value) (o : Nat) (w : World), (∀ i, i < vs.length → F g (o + i)) → Touched F w (w.setCells g o vs)
  | [], _, w, _ => Touched.refl _ _
  | v :: vs, o, w, h => (Touched.set w g o v (h 0 (by simp))).trans (touched_setCells g vs (o + 1) _ fun i hi => by
      have := h (i + 1) (by simp; omega)
      rwa [show o + (i + 1) = o + 1 + i by omega] at this)
theorem OwnList.storedAll {α : Type} {S : Owned α} {lo hi : Nat} {wr : World} {a : Option Addr} {n : Nat} {xs : List α} (h : OwnList S (FromB lo hi) wr a n xs) (g i : Nat) (vs : List Value) (hg : g < lo) : OwnList S (FromB lo hi) (wr.setCells g i vs) a n xs :=
  h.keep ((touched_setCells (F := fun b _ => b = g) g vs i wr fun _ _ => rfl).same fun b o f f' => by
    have e : b = g := f
    have := f'.1
    omega)
/-- A row of the call's own is owned. -/
theorem Row.own {base : Nat} {w : World} {v : Value} {xs : List Int} (h : Row base w v xs) : (Owned.list Owned.int (by decide)).owns (FromB base w.heap.size) w [v] xs := by
  have hcs := fun g (h' : v.ownBlock = some g) => World.ownsRow.cells h (g := g) h'
  have hlt := World.ownsRow.lt h
  rcases h.2 with ⟨rfl, hn⟩ | ⟨g, cap, cur, rfl, _, hg, hc, hm, hsz, _⟩
  · obtain rfl : xs = [] := List.eq_nil_of_length_eq_zero hn
    exact ⟨none, 0, 0, rfl, Nat.le_refl _, by omega, rfl, .inl rfl⟩
  · unfold maxLen at hm
    have hcell : ∀ j x, xs[j]? = some x → w.cell? ⟨g, j, none⟩ = some (.int .i64 x) := fun j x hx => by
      have hj := (List.getElem?_eq_some_iff.1 hx).1
      have hxe : xs.getD j 0 = x := by rw [List.getD_eq_getElem?_getD, hx]; rfl
      have := hcs g rfl j _ (icells_get xs j hj)
      rw [Addr.add_lit, hxe] at this
      simpa using this
    refine ⟨_, xs.length, cap, rfl, by omega, by omega, rfl, .inr ⟨g, 0, fun _ _ _ => False, rfl, fun i hi => hlt g rfl, fun j hj => ?_, fun j x hx => ?_, fun j b' o' f => f.elim, fun j j' _ b' o' f => f.elim⟩⟩
    · have hj' : j < xs.length := by simpa [Owned.int, Shape.int] using hj
      constructor
      · rw [Nat.zero_add, hcell j _ (List.getElem?_eq_getElem hj')]
        rfl
      · exact frozen_of_row _ _ _ _ _ hg
    · refine ⟨[.int .i64 x], fun i v hv => ?_, rfl⟩
      cases i with
      | zero => cases hv; have := hcell j x hx; simpa [Owned.int, Shape.int] using this
      | succ i => simp at hv

/-- A list that is made and filled place by place, each place's lists in blocks of their own. -/
structure OFilled {α : Type} (S : Owned α) (w wr : World) (n k : Nat) (xs : List α) : Prop where
  below : Below w.heap.size w wr
  lt : w.heap.size < wr.heap.size
  done : ∃ lo : Nat → Nat, (∀ j, j ≤ k → w.heap.size < lo j ∧ lo j ≤ wr.heap.size) ∧ (∀ j, j < k → lo j ≤ lo (j + 1)) ∧ ∀ j x, j < k → xs[j]? = some x → ∃ es, wr.rangeAt w.heap.size (j * S.size) es ∧ S.owns (FromB (lo j) (lo (j + 1))) wr es x
  there : wr.there w.heap.size 0 (n * S.size)
theorem OFilled.start {α : Type} (S : Owned α) (w : World) (n : Nat) (xs : List α) (z : Array Value) (e : TypeId) : OFilled S w (w.alloc (.cells (madeCells z (n * S.size)) e)) n 0 xs where
  below := (Below.refl _ _).alloc (Nat.le_refl _) _
  lt := by simp
  done := ⟨fun _ => w.heap.size + 1, fun j _ => by simp, fun j hj => absurd hj (Nat.not_lt_zero _), fun j x hj => absurd hj (Nat.not_lt_zero _)⟩
  there := by
    have := (Filled.start S.toShape w n xs z e).rest
    simpa using this
theorem OFilled.rest {α : Type} {S : Owned α} {w wr : World} {n k : Nat} {xs : List α} (h : OFilled S w wr n k xs) (hk : k ≤ n) : wr.there w.heap.size (k * S.size) ((n - k) * S.size) :=
  there_part h.there (Nat.zero_le _) (by
    rw [← Nat.add_mul, show k + (n - k) = n by omega]
    omega)
theorem lo_mono {lo : Nat → Nat} {k : Nat} (h : ∀ j, j < k → lo j ≤ lo (j + 1)) : ∀ i j, i ≤ j → j ≤ k → lo i ≤ lo j := by
  intro i j hij hj
  induction j with
  | zero => obtain rfl : i = 0 := by omega
            exact Nat.le_refl _
  | succ j ih =>
    rcases Nat.eq_or_lt_of_le hij with rfl | hlt
    · exact Nat.le_refl _
    · exact Nat.le_trans (ih (by omega) (by omega)) (h j (by omega))
theorem OFilled.step {α : Type} {S : Owned α} {w wr w1 : World} {n k : Nat} {xs : List α} {es : List Value} {x : α} (h : OFilled S w wr n k xs) (hk : k < n) (hb : Below wr.heap.size wr w1) (hx : xs[k]? = some x)
    (hs : S.owns (FromB wr.heap.size w1.heap.size) w1 es x) : OFilled S w (w1.setCells w.heap.size (k * S.size) es) n (k + 1) xs := by
  have hl := S.owns_len hs
  have hlt := h.lt
  have hsz := hb.size
  have hss := size_setCells w.heap.size es (k * S.size) w1
  have hth : w1.there w.heap.size 0 (n * S.size) := there_below h.there hb hlt
  have hpk := place_le (s := S.size) hk
  have hT : Touched (fun b _ => b = w.heap.size) w1 (w1.setCells w.heap.size (k * S.size) es) := touched_setCells _ _ _ _ fun _ _ => rfl
  obtain ⟨lo, hlo, hm, hd⟩ := h.done
  refine ⟨below_setCells _ (Nat.le_refl _) _ _ _ (h.below.trans (hb.mono (Nat.le_of_lt hlt))), by omega, ⟨fun j => if j ≤ k then lo j else w1.heap.size, fun j hj => ?_, fun j hj => ?_, fun j y hj hy => ?_⟩, World.there_setCells hth _ _ _⟩
  · by_cases hjk : j ≤ k
    · simp only [if_pos hjk]
      have := hlo j hjk
      omega
    · simp only [if_neg hjk]
      omega
  · by_cases hjk : j + 1 ≤ k
    · simp only [if_pos hjk, if_pos (show j ≤ k by omega)]
      exact hm j (by omega)
    · simp only [if_neg hjk, if_pos (show j ≤ k by omega)]
      have := hlo j (by omega)
      omega
  · by_cases hjk : j < k
    · simp only [if_pos (show j ≤ k by omega), if_pos (show j + 1 ≤ k by omega)]
      obtain ⟨es', hr, hs'⟩ := hd j y hjk hy
      have hj1 := hlo (j + 1) (by omega)
      have hj0 := hlo j (by omega)
      have hjl : j * S.size + S.size ≤ k * S.size := place_le (s := S.size) hjk
      refine ⟨es', World.rangeAt_setCells_apart (fun i v hv => (hb.cell (p := ⟨w.heap.size, j * S.size + i, none⟩) hlt).trans (hr i v hv)) _ _ _ (.inr (.inl (by rw [S.owns_len hs']; exact hjl))), ?_⟩
      refine S.owns_keep (S.owns_keep hs' (.of_below hb fun b o f => Nat.lt_of_lt_of_le f.2 hj1.2)) (hT.same fun b o f f' => ?_)
      have e : b = w.heap.size := f
      have := f'.1
      omega
    · obtain rfl : j = k := by omega
      rw [hx] at hy
      cases hy
      simp only [if_pos (Nat.le_refl j), if_neg (show ¬ j + 1 ≤ j by omega)]
      have hj0 := hlo j (Nat.le_refl _)
      refine ⟨es, World.rangeAt_setCells_same _ _ _ _ (there_part hth (Nat.zero_le _) (by omega)), ?_⟩
      refine S.owns_sub (S.owns_keep hs (hT.same fun b o f f' => ?_)) fun b o f => ⟨by have := f.1; omega, f.2⟩
      have e : b = w.heap.size := f
      have := f'.1
      omega
theorem OFilled.list {α : Type} {S : Owned α} {w wr : World} {n : Nat} {xs : List α} (h : OFilled S w wr n n xs) (hl : xs.length = n) : OwnList S (FromB w.heap.size wr.heap.size) wr (some ⟨w.heap.size, 0, none⟩) n xs := by
  obtain ⟨lo, hlo, hm, hd⟩ := h.done
  have hlt := h.lt
  refine ⟨hl, .inr ⟨w.heap.size, 0, fun j => if j < n then FromB (lo j) (lo (j + 1)) else fun _ _ => False, rfl, fun i hi => ⟨Nat.le_refl _, hlt⟩, h.there, fun j x hx => ?_, fun j b' o' g => ?_, fun j j' hne b' o' g g' => ?_⟩⟩
  · have hj : j < n := by rw [← hl]; exact (List.getElem?_eq_some_iff.1 hx).1
    obtain ⟨es, hr, hs⟩ := hd j x hj hx
    exact ⟨es, by rwa [Nat.zero_add], by simp only [if_pos hj]; exact hs⟩
  · by_cases hj : j < n
    · simp only [if_pos hj] at g
      have h0 := hlo j (by omega)
      have h1 := hlo (j + 1) (by omega)
      have g0 := g.1
      have g1 := g.2
      exact ⟨⟨by omega, by omega⟩, fun c => by have := c.1; omega⟩
    · simp only [if_neg hj] at g
  · by_cases hj : j < n
    · by_cases hj' : j' < n
      · simp only [if_pos hj] at g
        simp only [if_pos hj'] at g'
        have g0 := g.1
        have g1 := g.2
        have g2 := g'.1
        have g3 := g'.2
        rcases Nat.lt_or_gt_of_ne hne with h | h
        · have := lo_mono hm (j + 1) j' (by omega) (by omega)
          omega
        · have := lo_mono hm (j' + 1) j (by omega) (by omega)
          omega
      · simp only [if_neg hj'] at g'
    · simp only [if_neg hj] at g

/-! ### A list, marked place by place -/
/-- The first i places are marked. -/
def part {α : Type} (mk : α → Int → α) (ct : α → Nat) (xs : List α) (k : Int) (i : Nat) : List α := (Owned.mkL mk ct xs k).take i ++ xs.drop i
/-- What stays of a list while it is marked. -/
structure Marking {α : Type} (S : Owned α) (F : Foot) (w wr : World) (b o n : Nat) (G : Nat → Foot) (ys : List α) : Prop where
  len : ys.length = n
  touched : Touched F w wr
  cellsIn : ∀ i, i < n * S.size → F b (o + i)
  there : wr.there b o (n * S.size)
  elems : ∀ j x, ys[j]? = some x → ∃ es, wr.rangeAt b (o + j * S.size) es ∧ S.owns (G j) wr es x
  inF : ∀ j b' o', G j b' o' → F b' o' ∧ ¬ Cells b o (n * S.size) b' o'
  apart : ∀ j j', j ≠ j' → Apart (G j) (G j')
theorem OwnList.marking {α : Type} {S : Owned α} {F : Foot} {w : World} {a : Option Addr} {n : Nat} {xs : List α} (h : OwnList S F w a n xs) (hn : 0 < n) : ∃ b o G, a = some ⟨b, o, none⟩ ∧ Marking S F w w b o n G xs := by
  rcases h.2 with rfl | ⟨b, o, G, rfl, hF, hth, hx, hG, hA⟩
  · omega
  · exact ⟨b, o, G, rfl, h.1, Touched.refl _ _, hF, hth, hx, hG, hA⟩
theorem Marking.own {α : Type} {S : Owned α} {F : Foot} {w wr : World} {b o n : Nat} {G : Nat → Foot} {ys : List α} (h : Marking S F w wr b o n G ys) : OwnList S F wr (some ⟨b, o, none⟩) n ys :=
  ⟨h.len, .inr ⟨b, o, G, rfl, h.cellsIn, h.there, h.elems, h.inF, h.apart⟩⟩
/-- The cells of one place and of what it leads to. -/
abbrev Place (b o s : Nat) (G : Foot) : Foot := fun b' o' => Cells b o s b' o' ∨ G b' o'
theorem Marking.step {α : Type} {S : Owned α} {F : Foot} {w wr w' : World} {b o n : Nat} {G : Nat → Foot} {ys : List α} {k : Nat} {es' : List Value} {x' : α} (h : Marking S F w wr b o n G ys) (hk : k < n)
    (hw : Touched (Place b (o + k * S.size) S.size (G k)) wr w') (hr : w'.rangeAt b (o + k * S.size) es') (hs : S.owns (G k) w' es' x') : Marking S F w w' b o n G (ys.set k x') where
  len := by rw [List.length_set]; exact h.len
  touched := h.touched.trans (hw.mono fun b' o' f => by
    rcases f with ⟨rfl, c1, c2⟩ | g
    · have hp := place_le (s := S.size) hk
      have := h.cellsIn (o' - o) (by omega)
      rwa [show o + (o' - o) = o' by omega] at this
    · exact (h.inF k b' o' g).1)
  cellsIn := h.cellsIn
  there := hw.there h.there
  elems := OwnList.set h.len hk h.cellsIn h.there h.elems h.inF h.apart hw (hw.there h.there) hr hs
  inF := h.inF
  apart := h.apart
/-- What stays of one place while it is marked. -/
structure Placing (b o s : Nat) (G : Foot) (wr w' : World) (es : List Value) : Prop where
  touched : Touched (Place b o s G) wr w'
  there : w'.there b o s
  range : w'.rangeAt b o es
  len : es.length = s
theorem Placing.store {b o s : Nat} {G : Foot} {wr w' : World} {es : List Value} (h : Placing b o s G wr w' es) (f : Nat) (hf : f < s) (v : Value) : Placing b o s G wr (w'.setCell ⟨b, o + f, none⟩ v) (es.set f v) := by
  have hT : Touched (Place b o s G) w' (w'.setCell ⟨b, o + f, none⟩ v) := Touched.set _ _ _ _ (.inl ⟨rfl, by omega, by omega⟩)
  refine ⟨h.touched.trans hT, hT.there h.there, fun j u hj => ?_, by rw [List.length_set]; exact h.len⟩
  by_cases e : j = f
  · subst e
    rw [List.getElem?_set_self (by rw [h.len]; exact hf)] at hj
    cases hj
    obtain ⟨u, hu⟩ := Option.isSome_iff_exists.1 (h.there j hf).1
    exact World.cell?_setCell_same _ _ _ hu
  · rw [List.getElem?_set_ne (fun e' => e e'.symm)] at hj
    rw [World.cell?_setCell_other _ _ _ _ (fun e' => by have e2 := congrArg Addr.off e'; simp at e2; omega)]
    exact h.range j u hj
theorem Placing.call {b o s : Nat} {G G' : Foot} {wr w' w'' : World} {es : List Value} (h : Placing b o s G wr w' es) (hw : Touched G' w' w'') (hG : ∀ b' o', G' b' o' → G b' o') (hA : ∀ b' o', G b' o' → ¬ Cells b o s b' o') : Placing b o s G wr w'' es :=
  ⟨h.touched.trans (hw.mono fun b' o' g => .inr (hG b' o' g)), hw.there h.there, fun j u hj => by
    have hj' : j < s := by rw [← h.len]; exact (List.getElem?_eq_some_iff.1 hj).1
    rw [hw.cell b (o + j) fun g => hA b (o + j) (hG _ _ g) ⟨rfl, by omega, by omega⟩]
    exact h.range j u hj, h.len⟩
theorem Placing.same {b o s : Nat} {G G' : Foot} {w' : World} (f : Nat) (hf : f < s) (v : Value) (hG : ∀ b' o', G' b' o' → G b' o') (hA : ∀ b' o', G b' o' → ¬ Cells b o s b' o') : SameAt G' w' (w'.setCell ⟨b, o + f, none⟩ v) :=
  (Touched.set (F := fun b' o' => b' = b ∧ o' = o + f) w' b (o + f) v ⟨rfl, rfl⟩).same fun b' o' ⟨e1, e2⟩ g => hA b' o' (hG _ _ g) ⟨e1, by omega, by omega⟩
end Go.Proofs.Ytcooobnaocbdjaa

end

/-! YtcooobnaocbdjaaPGrow -/
section

namespace Go.Proofs.Ytcooobnaocbdjaa
open Go.RowKit
set_option linter.unusedVariables false

/-- A list of a call's own, its elements' cells too, all of it in blocks from lo on, below hi. -/
structure ListL {α : Type} (S : Owned α) (T : TypeId) (lo hi : Nat) (w : World) (v : Value) (xs : List α) : Prop where
  top : hi ≤ w.heap.size
  all : ∃ (us : List Value) (G : Nat → Foot), w.ownsRow lo T S.size v xs.length us ∧ (∀ g, v.ownBlock = some g → g < hi) ∧
    (∀ j x, xs[j]? = some x → ∃ es, (∀ i u, es[i]? = some u → us[j * S.size + i]? = some u) ∧ S.owns (G j) w es x) ∧
    (∀ j b o, G j b o → lo ≤ b ∧ b < hi ∧ v.ownBlock ≠ some b) ∧ ∀ j j', j ≠ j' → Apart (G j) (G j')
variable {α : Type} {S : Owned α} {T : TypeId} {lo hi : Nat} {w w' : World} {v v' : Value} {xs : List α}
theorem ListL.nil (S : Owned α) (T : TypeId) {lo hi : Nat} {w : World} (h : hi ≤ w.heap.size) : ListL S T lo hi w (.slice none 0 0) [] :=
  ⟨h, [], fun _ _ _ => False, World.ownsRow_nil _ _ _ _, fun g hg => by simp [Value.ownBlock] at hg, fun j x hx => by simp at hx, fun j b o f => f.elim, fun j j' _ b o f => f.elim⟩
theorem ListL.below {B : Nat} (h : ListL S T lo hi w v xs) (hb : Below B w w') (hB : hi ≤ B) : ListL S T lo hi w' v xs := by
  obtain ⟨us, G, h1, h2, h3, h4, h5⟩ := h.all
  refine ⟨Nat.le_trans h.top hb.size, us, G, ⟨h1.1, h1.2.imp id ?_⟩, h2, fun j x hx => ?_, h4, h5⟩
  · rintro ⟨g, cap, cur, rfl, e1, e2, e3⟩
    exact ⟨g, cap, cur, rfl, e1, (hb.block g (Nat.lt_of_lt_of_le (h2 g rfl) hB)).trans e2, e3⟩
  · obtain ⟨es, q1, q2⟩ := h3 j x hx
    exact ⟨es, q1, S.owns_keep q2 (.of_below hb fun b o f => Nat.lt_of_lt_of_le (h4 j b o f).2.1 hB)⟩
/-- One element is written anew. -/
theorem owns_setCells {T : TypeId} {size n cap g : Nat} : ∀ (es : List Value) (o : Nat) (w : World) (us : List Value), w.ownsRow lo T size (.slice (some ⟨g, 0, none⟩) n cap) n us →
    ∃ us', (w.setCells g o es).ownsRow lo T size (.slice (some ⟨g, 0, none⟩) n cap) n us' ∧ us'.length = us.length ∧ (∀ i u, es[i]? = some u → o + i < us.length → us'[o + i]? = some u) ∧ ∀ k, k < o ∨ o + es.length ≤ k → us'[k]? = us[k]?
  | [], o, w, us, h => ⟨us, h, rfl, fun i u hu => by simp at hu, fun _ _ => rfl⟩
  | e :: es, o, w, us, h => by
    obtain ⟨us', h1, h2, h3, h4⟩ := owns_setCells es (o + 1) (w.setCell ⟨g, o, none⟩ e) (us.set o e) (World.ownsRow.stored h o e).1
    refine ⟨us', h1, by rw [h2, List.length_set], fun i u hu hlt => ?_, fun k hk => ?_⟩
    · cases i with
      | zero =>
        simp at hu
        subst hu
        rw [Nat.add_zero] at hlt ⊢
        rw [h4 o (.inl (by omega)), List.getElem?_set_self hlt]
      | succ i =>
        have := h3 i u (by simpa using hu) (by rw [List.length_set]; omega)
        rwa [show o + 1 + i = o + (i + 1) by omega] at this
    · rw [h4 k (by simp at hk; omega), List.getElem?_set_ne (by simp at hk; omega)]
theorem ListL.set {n cap g j : Nat} {es : List Value} {x : α} {F : Foot} (h : ListL S T lo hi w (.slice (some ⟨g, 0, none⟩) n cap) xs) (hj : j < xs.length) (hn : n = xs.length) (hs : S.owns F w es x) (hF : ∀ b o, F b o → hi ≤ b ∧ b < w.heap.size) :
    ListL S T lo w.heap.size (w.setCells g (j * S.size) es) (.slice (some ⟨g, 0, none⟩) n cap) (xs.set j x) ∧ Below lo w (w.setCells g (j * S.size) es) := by
  subst hn
  obtain ⟨us, G, h1, h2, h3, h4, h5⟩ := h.all
  have hlg := World.ownsRow.lt h1 g rfl
  have hgh := h2 g rfl
  have hes := S.owns_len hs
  have hus : us.length = xs.length * S.size := h1.1
  obtain ⟨us', k1, k2, k3, k4⟩ := owns_setCells es (j * S.size) w us h1
  have hT : Touched (fun b _ => b = g) w (w.setCells g (j * S.size) es) := touched_setCells _ _ _ _ fun _ _ => rfl
  have hpj := place_le (s := S.size) hj
  refine ⟨⟨by rw [size_setCells]; exact Nat.le_refl _, us', fun i => if i = j then F else G i, by rw [List.length_set]; exact k1, fun g' e => Nat.lt_of_lt_of_le (h2 g' e) h.top, fun i y hy => ?_, fun i b o f => ?_, fun i i' hne b o f f' => ?_⟩, hT.below fun b o e => by have e' : b = g := e; omega⟩
  · by_cases e : i = j
    · subst e
      rw [List.getElem?_set_self hj] at hy
      cases hy
      simp only [if_true]
      exact ⟨es, fun q u hu => k3 q u hu (by rw [hus]; have := (List.getElem?_eq_some_iff.1 hu).1; omega), S.owns_keep hs (hT.same fun b o f f' => by have e' : b = g := f; have := (hF b o f').1; omega)⟩
    · rw [List.getElem?_set_ne (fun e' => e e'.symm)] at hy
      simp only [if_neg e]
      obtain ⟨es', q1, q2⟩ := h3 i y hy
      have hi : i < xs.length := (List.getElem?_eq_some_iff.1 hy).1
      have hl' := S.owns_len q2
      refine ⟨es', fun q u hu => ?_, S.owns_keep q2 (hT.same fun b o f f' => by have e' : b = g := f; exact (h4 i b o f').2.2 (by rw [e']; rfl))⟩
      have hq := (List.getElem?_eq_some_iff.1 hu).1
      rw [k4 _ ?_]
      · exact q1 q u hu
      · rcases Nat.lt_or_gt_of_ne e with a | a
        · have := place_le (s := S.size) a; omega
        · have := place_le (s := S.size) a; omega
  · by_cases e : i = j
    · simp only [if_pos e] at f
      have q := hF b o f
      exact ⟨by omega, q.2, fun e' => by have e2 : g = b := by simpa [Value.ownBlock] using e'
                                         omega⟩
    · simp only [if_neg e] at f
      have q := h4 i b o f
      exact ⟨q.1, Nat.lt_of_lt_of_le q.2.1 h.top, q.2.2⟩
  · by_cases e : i = j <;> by_cases e' : i' = j
    · omega
    · simp only [if_pos e] at f; simp only [if_neg e'] at f'
      have q1 := (hF b o f).1; have q2 := (h4 i' b o f').2.1; omega
    · simp only [if_neg e] at f; simp only [if_pos e'] at f'
      have q1 := (hF b o f').1; have q2 := (h4 i b o f).2.1; omega
    · simp only [if_neg e] at f; simp only [if_neg e'] at f'
      exact h5 i i' hne b o f f'
/-- What is read at a place. -/
theorem ListL.form (h : ListL S T lo hi w v xs) : ∃ a cap, v = .slice a xs.length cap ∧ xs.length ≤ cap ∧ cap ≤ 9223372036854775807 := by
  obtain ⟨us, G, h1, -⟩ := h.all
  rcases h1.2 with ⟨rfl, hn⟩ | ⟨g, cap, cur, rfl, e1, e2, e3, e4, -⟩
  · exact ⟨none, 0, by rw [hn], by omega, by omega⟩
  · unfold maxLen at e4
    exact ⟨_, cap, rfl, e3, by omega⟩
theorem ListL.own (h : ListL S T lo hi w v xs) (hS : 0 < S.size) : (Owned.list S hS).owns (FromB lo hi) w [v] xs := by
  obtain ⟨us, G, h1, h2, h3, h4, h5⟩ := h.all
  have h1' := h1
  rcases h1.2 with ⟨rfl, hn⟩ | ⟨g, cap, cur, rfl, e1, e2, e3, e4, -⟩
  · exact ⟨none, 0, 0, rfl, Nat.le_refl _, by omega, hn, .inl rfl⟩
  · unfold maxLen at e4
    have hgh := h2 g rfl
    have hus : us.length = xs.length * S.size := h1.1
    refine ⟨_, xs.length, cap, rfl, e3, by omega, rfl, .inr ⟨g, 0, G, rfl, fun i hi => ⟨e1, hgh⟩, fun i hi => ?_, fun j x hx => ?_, fun j b' o' f => ?_, h5⟩⟩
    · rw [Nat.zero_add]
      constructor
      · rw [World.ownsRow.cellAt h1' i hi, List.getElem?_eq_getElem (by omega)]; rfl
      · exact World.ownsRow.frozenAt h1' i
    · obtain ⟨es, q1, q2⟩ := h3 j x hx
      refine ⟨es, fun i u hu => ?_, q2⟩
      have hj : j < xs.length := (List.getElem?_eq_some_iff.1 hx).1
      have hi := (List.getElem?_eq_some_iff.1 hu).1
      have hl := S.owns_len q2
      have hp := place_le (s := S.size) hj
      rw [Nat.zero_add, World.ownsRow.cellAt h1' _ (by omega)]
      exact q1 i u hu
    · have q := h4 j b' o' f
      exact ⟨⟨q.1, q.2.1⟩, fun c => q.2.2 (by rw [c.1]; rfl)⟩
theorem ListL.list (h : ListL S T lo hi w v xs) (hS : 0 < S.size) : ∃ a cap, v = .slice a xs.length cap ∧ xs.length ≤ cap ∧ cap ≤ 9223372036854775807 ∧ OwnList S (FromB lo hi) w a xs.length xs := by
  obtain ⟨a, n, c, e, q1, q2, q3⟩ := h.own hS
  obtain rfl : v = .slice a n c := by simpa using e
  obtain rfl : xs.length = n := q3.1
  exact ⟨a, c, rfl, q1, q2, q3⟩

/-! ### The same, where elements may share what they lead to -/
/-- A list of a call's own; what its elements lead to lies below hi, but not in the list's own block. -/
structure ListR {α : Type} (S : Shape α) (T : TypeId) (lo hi : Nat) (w : World) (v : Value) (xs : List α) : Prop where
  top : hi ≤ w.heap.size
  all : ∃ us, w.ownsRow lo T S.size v xs.length us ∧ (∀ g, v.ownBlock = some g → g < hi) ∧
    ∀ j x, xs[j]? = some x → ∃ es, (∀ i u, es[i]? = some u → us[j * S.size + i]? = some u) ∧ es.length = S.size ∧ S.reads (fun b => b < hi ∧ v.ownBlock ≠ some b) w es x
section
variable {S : Shape α}
theorem ListR.nil (S : Shape α) (T : TypeId) {lo hi : Nat} {w : World} (h : hi ≤ w.heap.size) : ListR S T lo hi w (.slice none 0 0) [] :=
  ⟨h, [], World.ownsRow_nil _ _ _ _, fun g hg => by simp [Value.ownBlock] at hg, fun j x hx => by simp at hx⟩
theorem ListR.below {B : Nat} (h : ListR S T lo hi w v xs) (hb : Below B w w') (hB : hi ≤ B) : ListR S T lo hi w' v xs := by
  obtain ⟨us, h1, h2, h3⟩ := h.all
  refine ⟨Nat.le_trans h.top hb.size, us, ⟨h1.1, h1.2.imp id ?_⟩, h2, fun j x hx => ?_⟩
  · rintro ⟨g, cap, cur, rfl, e1, e2, e3⟩
    exact ⟨g, cap, cur, rfl, e1, (hb.block g (Nat.lt_of_lt_of_le (h2 g rfl) hB)).trans e2, e3⟩
  · obtain ⟨es, q1, q2, q3⟩ := h3 j x hx
    exact ⟨es, q1, q2, S.keep q3 fun b hb' => hb.block b (Nat.lt_of_lt_of_le hb'.1 hB)⟩
/-- A list is read. -/
theorem ListR.list (h : ListR S T lo hi w v xs) : ∃ a cap, v = .slice a xs.length cap ∧ xs.length ≤ cap ∧ cap ≤ 9223372036854775807 ∧ ListAt S (Under hi) w a xs.length xs := by
  obtain ⟨us, h1, h2, h3⟩ := h.all
  have h1' := h1
  rcases h1.2 with ⟨rfl, hn⟩ | ⟨g, cap, cur, rfl, e1, e2, e3, e4, -⟩
  · refine ⟨none, 0, by rw [hn], by omega, by omega, rfl, fun j x hx => ?_⟩
    have := (List.getElem?_eq_some_iff.1 hx).1
    omega
  · unfold maxLen at e4
    refine ⟨_, cap, rfl, e3, by omega, rfl, fun j x hx => ?_⟩
    obtain ⟨es, q1, q2, q3⟩ := h3 j x hx
    have hj : j < xs.length := (List.getElem?_eq_some_iff.1 hx).1
    have hp := place_le (s := S.size) hj
    refine ⟨g, 0, es, rfl, h2 g rfl, fun i u hu => ?_, S.sub q3 fun b hb => hb.1⟩
    have hi := (List.getElem?_eq_some_iff.1 hu).1
    rw [Nat.zero_add, World.ownsRow.cellAt h1' _ (by omega)]
    exact q1 i u hu
/-- The first k of it. -/
theorem ListR.take {a : Option Addr} {n cap k : Nat} (h : ListR S T lo hi w (.slice a n cap) xs) (hk : k ≤ n) (ha : a ≠ none) : ListR S T lo hi w (.slice a k cap) (xs.take k) := by
  obtain ⟨us, h1, h2, h3⟩ := h.all
  have hus := h1.1
  rcases h1.2 with ⟨e, -⟩ | ⟨g, cap', cur, e, e1, e2, e3, e4, e5, e6⟩
  · simp only [Value.slice.injEq] at e
    exact absurd e.1 ha
  · simp only [Value.slice.injEq] at e
    obtain ⟨rfl, rfl, rfl⟩ := e
    have hl : (xs.take k).length = k := by rw [List.length_take]; omega
    have hkm : k * S.size ≤ xs.length * S.size := Nat.mul_le_mul_right _ hk
    refine ⟨h.top, us.take (k * S.size), ⟨by rw [hl, List.length_take]; omega, .inr ⟨g, cap, cur, by rw [hl], e1, e2, by omega, e4, e5, by rw [hl, ← e6, List.take_take, Nat.min_eq_left hkm]⟩⟩, h2, fun j x hx => ?_⟩
    rw [List.getElem?_take] at hx
    split at hx
    · rename_i hj
      obtain ⟨es, q1, q2, q3⟩ := h3 j x hx
      have hp := place_le (s := S.size) hj
      refine ⟨es, fun i u hu => ?_, q2, q3⟩
      have hi := (List.getElem?_eq_some_iff.1 hu).1
      rw [List.getElem?_take, if_pos (by omega)]
      exact q1 i u hu
    · cases hx
/-- One element is written anew. -/
theorem ListR.set {n cap g j : Nat} {es : List Value} {x : α} (h : ListR S T lo hi w (.slice (some ⟨g, 0, none⟩) n cap) xs) (hj : j < xs.length) (hn : n = xs.length) (hl : es.length = S.size) (hs : S.reads (fun b => b < w.heap.size ∧ some g ≠ some b) w es x) :
    ListR S T lo w.heap.size (w.setCells g (j * S.size) es) (.slice (some ⟨g, 0, none⟩) n cap) (xs.set j x) ∧ Below lo w (w.setCells g (j * S.size) es) := by
  subst hn
  obtain ⟨us, h1, h2, h3⟩ := h.all
  have hlg := World.ownsRow.lt h1 g rfl
  have hus : us.length = xs.length * S.size := h1.1
  obtain ⟨us', k1, k2, k3, k4⟩ := owns_setCells es (j * S.size) w us h1
  have hT : Touched (fun b _ => b = g) w (w.setCells g (j * S.size) es) := touched_setCells _ _ _ _ fun _ _ => rfl
  have hpj := place_le (s := S.size) hj
  have hkeep : ∀ b, some g ≠ some b → (w.setCells g (j * S.size) es).heap[b]? = w.heap[b]? := fun b hb => hT.block b fun _ e => by
    have e' : b = g := e
    exact hb (by rw [e'])
  refine ⟨⟨by rw [size_setCells]; exact Nat.le_refl _, us', by rw [List.length_set]; exact k1, fun g' e => Nat.lt_of_lt_of_le (h2 g' e) h.top, fun i y hy => ?_⟩, hT.below fun b o e => by have e' : b = g := e; omega⟩
  by_cases e : i = j
  · subst e
    rw [List.getElem?_set_self hj] at hy
    cases hy
    exact ⟨es, fun q u hu => k3 q u hu (by rw [hus]; have := (List.getElem?_eq_some_iff.1 hu).1; omega), hl, S.sub (S.keep hs fun b hb => hkeep b hb.2) fun b hb => ⟨hb.1, hb.2⟩⟩
  · rw [List.getElem?_set_ne (fun e' => e e'.symm)] at hy
    obtain ⟨es', q1, q2, q3⟩ := h3 i y hy
    have hi : i < xs.length := (List.getElem?_eq_some_iff.1 hy).1
    refine ⟨es', fun q u hu => ?_, q2, S.sub (S.keep q3 fun b hb => hkeep b hb.2) fun b hb => ⟨Nat.lt_of_lt_of_le hb.1 h.top, hb.2⟩⟩
    have hq := (List.getElem?_eq_some_iff.1 hu).1
    rw [k4 _ ?_]
    · exact q1 q u hu
    · rcases Nat.lt_or_gt_of_ne e with a | a
      · have := place_le (s := S.size) a; omega
      · have := place_le (s := S.size) a; omega
end
end Go.Proofs.Ytcooobnaocbdjaa

end

/-! YtcooobnaocbdjaaPTwo -/
section

namespace Go.Proofs.Ytcooobnaocbdjaa
open Go.RowKit
set_option linter.unusedVariables false

abbrev dTwo := Int × Int
def shTwo : Shape dTwo := .struct (.cons .int (.last .int))
theorem shTwo_size : shTwo.size = 2 := rfl
theorem shTwo_reads {I : Nat → Prop} {w : World} {cs : List Value} {d : dTwo} : shTwo.reads I w cs d ↔ cs = [.int .i64 d.1, .int .i64 d.2] := by
  constructor
  · rintro ⟨_, _, rfl, rfl, rfl⟩
    rfl
  · rintro rfl
    exact ⟨_, _, rfl, rfl, rfl⟩
/-- The cells of a list of pairs. -/
def tcells : List dTwo → List Value
  | [] => []
  | x :: xs => .int .i64 x.1 :: .int .i64 x.2 :: tcells xs
theorem tcells_length : ∀ l : List dTwo, (tcells l).length = l.length * 2
  | [] => rfl
  | x :: xs => by simp only [tcells, List.length_cons, tcells_length xs]; omega
theorem tcells_get0 : ∀ (l : List dTwo) (j : Nat), j < l.length → (tcells l)[j * 2]? = some (.int .i64 (l.getD j (0, 0)).1)
  | x :: xs, 0, _ => rfl
  | x :: xs, j + 1, h => by
    rw [show (j + 1) * 2 = j * 2 + 1 + 1 by omega]
    simp only [tcells, List.getElem?_cons_succ, List.getD_cons_succ]
    exact tcells_get0 xs j (by simpa using h)
theorem tcells_get1 : ∀ (l : List dTwo) (j : Nat), j < l.length → (tcells l)[j * 2 + 1]? = some (.int .i64 (l.getD j (0, 0)).2)
  | x :: xs, 0, _ => rfl
  | x :: xs, j + 1, h => by
    rw [show (j + 1) * 2 + 1 = j * 2 + 1 + 1 + 1 by omega]
    simp only [tcells, List.getElem?_cons_succ, List.getD_cons_succ]
    exact tcells_get1 xs j (by simpa using h)
theorem tcells_set : ∀ (l : List dTwo) (j : Nat) (x : dTwo), ((tcells l).set (j * 2) (.int .i64 x.1)).set (j * 2 + 1) (.int .i64 x.2) = tcells (l.set j x)
  | [], j, x => rfl
  | y :: ys, 0, x => rfl
  | y :: ys, j + 1, x => by
    rw [show (j + 1) * 2 = j * 2 + 1 + 1 by omega]
    simp only [tcells, List.set_cons_succ]
    rw [tcells_set ys j x]
theorem tset_fill (xs : List dTwo) (k m : Nat) (hk : k < xs.length) : (xs.take k ++ List.replicate (m + 1) (0, 0)).set k (xs.getD k (0, 0)) = xs.take (k + 1) ++ List.replicate m (0, 0) := by
  have h1 : (xs.take k).length = k := by simp; omega
  rw [List.set_append_right _ _ (by omega), h1, Nat.sub_self, List.replicate_succ, List.set_cons_zero, List.take_add_one, List.getElem?_eq_getElem hk, List.append_assoc]
  simp [List.getD, hk]

/-- A row of pairs below B, as a walk reads it. -/
structure TwoIn (B : Nat) (w : World) (a : Option Addr) (n : Nat) (xs : List dTwo) : Prop where
  len : xs.length = n
  room : n ≤ 1048576
  cells : ∀ j, j < n → ∃ b o, a = some ⟨b, o, none⟩ ∧ b < B ∧ w.cell? ⟨b, o + j * 2, none⟩ = some (.int .i64 (xs.getD j (0, 0)).1) ∧ w.cell? ⟨b, o + j * 2 + 1, none⟩ = some (.int .i64 (xs.getD j (0, 0)).2)
theorem TwoIn.below {B B' : Nat} {w w' : World} {a : Option Addr} {n : Nat} {xs : List dTwo} (h : TwoIn B w a n xs) (hb : Below B' w w') (hB : B ≤ B') : TwoIn B w' a n xs :=
  ⟨h.len, h.room, fun j hj => by
    obtain ⟨b, o, e1, e2, e3, e4⟩ := h.cells j hj
    exact ⟨b, o, e1, e2, (hb.cell (p := ⟨b, o + j * 2, none⟩) (Nat.lt_of_lt_of_le e2 hB)).trans e3, (hb.cell (p := ⟨b, o + j * 2 + 1, none⟩) (Nat.lt_of_lt_of_le e2 hB)).trans e4⟩⟩
theorem TwoIn.le {B B' : Nat} {w : World} {a : Option Addr} {n : Nat} {xs : List dTwo} (h : TwoIn B w a n xs) (hB : B ≤ B') : TwoIn B' w a n xs :=
  ⟨h.len, h.room, fun j hj => by
    obtain ⟨b, o, e1, e2, e3⟩ := h.cells j hj
    exact ⟨b, o, e1, Nat.lt_of_lt_of_le e2 hB, e3⟩⟩
theorem ListAt.two {B : Nat} {w : World} {a : Option Addr} {n : Nat} {xs : List dTwo} (h : ListAt shTwo (Under B) w a n xs) (hr : n ≤ 1048576) : TwoIn B w a n xs :=
  ⟨h.1, hr, fun j hj => by
    have hx : xs[j]? = some (xs.getD j (0, 0)) := by
      rw [List.getElem?_eq_getElem (by rw [h.1]; exact hj)]
      simp [List.getD, h.1, hj]
    obtain ⟨b, o, es, e, hb, hr, hs⟩ := h.2 j _ hx
    have hs' := shTwo_reads.1 hs
    subst hs'
    refine ⟨b, o, e, hb, ?_, ?_⟩
    · have := hr 0 _ rfl
      simpa [shTwo_size] using this
    · have := hr 1 _ rfl
      simpa [shTwo_size] using this⟩
/-- A row of pairs of the call's own, from block 'base' on. -/
def TwoR (T : TypeId) (base : Nat) (w : World) (v : Value) (xs : List dTwo) : Prop := w.ownsRow base T 2 v xs.length (tcells xs)
variable {T : TypeId}
theorem TwoR.nil (base : Nat) (w : World) : TwoR T base w (.slice none 0 0) [] := World.ownsRow_nil _ _ _ _
theorem TwoR.form {base : Nat} {w : World} {v : Value} {xs : List dTwo} (h : TwoR T base w v xs) : ∃ a cap, v = .slice a xs.length cap ∧ xs.length ≤ cap ∧ cap ≤ 9223372036854775807 ∧ (xs.length ≤ 1048576 → TwoIn w.heap.size w a xs.length xs) := by
  have hcs := fun g (h' : v.ownBlock = some g) => World.ownsRow.cells h (g := g) h'
  have hlt := World.ownsRow.lt h
  rcases h.2 with ⟨rfl, hn⟩ | ⟨g, cap, cur, rfl, hb, hg, hc, hm, -⟩
  · have : xs = [] := List.eq_nil_of_length_eq_zero hn
    subst this
    exact ⟨none, 0, rfl, Nat.le_refl _, by omega, fun _ => ⟨rfl, by decide, fun j hj => absurd hj (Nat.not_lt_zero _)⟩⟩
  · unfold maxLen at hm
    refine ⟨_, cap, rfl, hc, by omega, fun hr => ⟨rfl, hr, fun j hj => ⟨g, 0, rfl, (hlt g rfl).2, ?_, ?_⟩⟩⟩
    · have := hcs g rfl _ _ (tcells_get0 xs j hj)
      rw [Addr.add_lit] at this
      exact this
    · have := hcs g rfl _ _ (tcells_get1 xs j hj)
      rw [Addr.add_lit] at this
      rw [Nat.add_assoc]
      exact this
theorem TwoR.lt {base : Nat} {w : World} {v : Value} {xs : List dTwo} (h : TwoR T base w v xs) : ∀ k, v.ownBlock = some k → base ≤ k ∧ k < w.heap.size := World.ownsRow.lt h
theorem TwoR.le {base base' : Nat} {w : World} {v : Value} {xs : List dTwo} (h : TwoR T base w v xs) (hB : base' ≤ base) : TwoR T base' w v xs := World.ownsRow.mono h hB
theorem TwoR.kept {base : Nat} {w w' : World} {v : Value} {xs : List dTwo} {row : Option Nat} (h : TwoR T base w v xs) (hg : w.grownBy w' row) (hne : v.ownBlock = none ∨ v.ownBlock ≠ row) : TwoR T base w' v xs := World.ownsRow.kept h hg hne
theorem TwoR.below {base : Nat} {w w' : World} {v : Value} {xs : List dTwo} (h : TwoR T base w v xs) (hb : Below w.heap.size w w') : TwoR T base w' v xs :=
  h.kept (row := none) ⟨hb.os, hb.tape, hb.output, hb.size, fun b hb' _ => hb.block b hb'⟩ (by
    cases hv : v.ownBlock with
    | none => exact .inl rfl
    | some g => exact .inr (by simp))
/-- What a row of pairs is to the laws that mark. -/
def tmarks (k : Int) (n : Nat) : List dTwo := (List.range n).map fun (j : Nat) => (k + 2 * (j : Int), k + 2 * (j : Int) + 1)
theorem made_two (z : Value) (n : Nat) : (madeCells #[z, z] n).toList = List.replicate n z := by
  refine List.ext_getElem? fun i => ?_
  by_cases hi : i < n
  · have h1 : i < (madeCells #[z, z] n).toList.length := by rw [Array.length_toList, size_madeCells]; exact hi
    rw [List.getElem?_eq_getElem h1, List.getElem?_eq_getElem (by simpa using hi)]
    simp only [madeCells, Array.getElem_toList, Array.getElem_map, Array.getElem_range, List.getElem_replicate]
    have : i % 2 = 0 ∨ i % 2 = 1 := by omega
    rcases this with h | h <;> simp [h]
  · rw [List.getElem?_eq_none (by rw [Array.length_toList, size_madeCells]; omega), List.getElem?_eq_none (by simp; omega)]
theorem tcells_fill : ∀ n : Nat, tcells (List.replicate n (0, 0)) = List.replicate (n * 2) (.int .i64 0)
  | 0 => rfl
  | n + 1 => by
    rw [show (n + 1) * 2 = n * 2 + 1 + 1 by omega]
    simp only [List.replicate_succ, tcells, tcells_fill n]
theorem TwoR.small {T : TypeId} {base : Nat} {w : World} {v : Value} {xs : List dTwo} {N : Nat} (h : TwoR T base w v xs) (hN : xs.length = N) (hl : N ≤ 100) : ∃ a c, v = .slice a N c ∧ TwoIn w.heap.size w a N xs := by
  subst hN
  obtain ⟨a, c, e, -, -, hi⟩ := h.form
  exact ⟨a, c, e, hi (by omega)⟩
theorem TwoR.slice {T : TypeId} {base : Nat} {w : World} {a : Option Addr} {n c : Nat} {xs : List dTwo} (h : TwoR T base w (.slice a n c) xs) (hn : n ≤ 1048576) : TwoIn w.heap.size w a n xs := by
  obtain ⟨a', c', e, -, -, hi⟩ := h.form
  cases e
  exact hi hn
end Go.Proofs.Ytcooobnaocbdjaa

end
