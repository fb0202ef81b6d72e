/-
  Rows of instructions as lists of data with depth: the small functions of the exact laws over them.
-/
import Derived.Test.YtcooobnaocbdjaaDeep
import Derived.Test.YtcooobnaocbdjaaIns
namespace Go.Proofs.Ytcooobnaocbdjaa
open Go.RowKit
set_option linter.unusedVariables false

abbrev dIns := dTwo
theorem shIns_size : shIns.size = 2 := rfl
theorem bulk_ins (xs : List dIns) : (Shape.list shIns).bulk xs = xs.length := by
  have h : ∀ l : List dIns, Shape.sum shIns.bulk l = 0 := fun l => by
    induction l with
    | nil => rfl
    | cons x l ih =>
      have e : Shape.sum shIns.bulk (x :: l) = shIns.bulk x + Shape.sum shIns.bulk l := rfl
      rw [e, ih]
      rfl
  show xs.length + Shape.sum shIns.bulk xs = xs.length
  rw [h, Nat.add_zero]
theorem szInsS_c (w : World) (B : Nat) (a : Option Addr) (n c : Nat) (xs : List dIns) (L : Int) (h : ListAt shIns (Under B) w a n xs) (hB : B ≤ w.heap.size) (hn : n ≤ 9223372036854775807) (h0 : 0 ≤ L) (h1 : L ≤ 1048576) :
    Calls Try.prog 87 #[.slice a n c, .int .i64 L] w fun e w' => e = .returned (.int .i64 (szN ((Shape.list shIns).bulk xs) L)) ∧ Below w.heap.size w w' := by
  rw [bulk_ins, h.1]
  exact szInsS_any w a n c L hn h0 h1
theorem ListAt.twoIn {B : Nat} {w : World} {a : Option Addr} {n : Nat} {xs : List dIns} (h : ListAt shIns (Under B) w a n xs) (hB : B ≤ w.heap.size) (hb : (Shape.list shIns).bulk xs ≤ 1048576) : TwoIn w.heap.size w a n xs := by
  rw [bulk_ins, h.1] at hb
  exact (h.two hb).le hB
/-- A row of pairs of the call's own, as a list. -/
theorem TwoR.listAt {T : TypeId} {base : Nat} {w : World} {v : Value} {xs : List dTwo} (h : TwoR T base w v xs) : (Shape.list shTwo).reads (From base w.heap.size) w [v] xs := by
  have hcs := fun g (h' : v.ownBlock = some g) => World.ownsRow.cells h (g := g) h'
  have hlt := World.ownsRow.lt h
  rcases h.2 with ⟨rfl, hn⟩ | ⟨g, cap, cur, rfl, _, hg, hc, hm, _⟩
  · obtain rfl : xs = [] := List.eq_nil_of_length_eq_zero hn
    exact ⟨none, 0, 0, rfl, Nat.le_refl _, by omega, rfl, fun j x hx => by simp at hx⟩
  · unfold maxLen at hm
    refine ⟨_, xs.length, cap, rfl, by omega, by omega, rfl, fun j x hx => ?_⟩
    have hj := (List.getElem?_eq_some_iff.1 hx).1
    have hxe : xs.getD j (0, 0) = x := by rw [List.getD_eq_getElem?_getD, hx]; rfl
    refine ⟨g, 0, [.int .i64 x.1, .int .i64 x.2], rfl, hlt g rfl, fun i v hv => ?_, shTwo_reads.2 rfl⟩
    have e0 := hcs g rfl _ _ (tcells_get0 xs j hj)
    have e1 := hcs g rfl _ _ (tcells_get1 xs j hj)
    rw [Addr.add_lit, hxe] at e0 e1
    match i, hv with
    | 0, hv => cases hv; simpa [shTwo_size] using e0
    | 1, hv => cases hv; simpa [shTwo_size] using e1
    | i + 2, hv => simp at hv
theorem toInsS_c (w : World) (B : Nat) (a : Option Addr) (n c : Nat) (xs : List dIns) (h : ListAt shIns (Under B) w a n xs) (hB : B ≤ w.heap.size) (hb : (Shape.list shIns).bulk xs ≤ 1048576) :
    Calls Try.prog 94 #[.slice a n c] w fun e w' => e = .returned (.slice (some ⟨w.heap.size, 0, none⟩) n n) ∧ ListAt shIns (From w.heap.size w'.heap.size) w' (some ⟨w.heap.size, 0, none⟩) n xs ∧ Below w.heap.size w w' := by
  refine (toInsS_any w.heap.size w a n c xs (h.twoIn hB hb) (Nat.le_refl _)).mono ?_
  rintro e w' ⟨rfl, hr, hbw⟩
  obtain ⟨a', n', c', e', _, _, hr'⟩ := TwoR.listAt hr
  cases e'
  exact ⟨rfl, hr', hbw⟩
theorem eqInsS_c (w : World) (B B' : Nat) (a a' : Option Addr) (n c c' : Nat) (xs : List dIns) (h : ListAt shIns (Under B) w a n xs) (h' : ListAt shIns (Under B') w a' n xs) (hB : B ≤ w.heap.size) (hB' : B' ≤ w.heap.size) (hb : (Shape.list shIns).bulk xs ≤ 1048576) :
    Calls Try.prog 101 #[.slice a n c, .slice a' n c'] w fun e w' => e = .returned (.bool true) ∧ Below w.heap.size w w' :=
  eqInsS_same w a n c xs a' c' (h.twoIn hB hb) (h'.twoIn hB' hb)
end Go.Proofs.Ytcooobnaocbdjaa
