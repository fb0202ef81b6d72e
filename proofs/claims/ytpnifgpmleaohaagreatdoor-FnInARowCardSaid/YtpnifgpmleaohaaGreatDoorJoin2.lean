import Derived.Test.YtpnifgpmleaohaaGreatDoorJoin1
import Derived.Test.YtpnifgpmleaohaaGreatDoorProg
import Derived.WalkKit
import Derived.LaidEql
import Derived.Stop.Asserts
import Derived.RowKitTokens
import Derived.Below
import Derived.Lib.Hide
import Derived.WalkSpells
import Derived.WalkLawsBesides
import Derived.Outline
/-! YtpnifgpmleaohaaGreatDoorZFill -/
section

namespace Go.Proofs.YtpnifgpmleaohaaGreatDoor
open Go.RowKit
set_option linter.unusedVariables false

theorem run_make_many {P : Program} (t e : TypeId) (z : Value) (size bytes : Nat) (ht : P.underlying t = some (.slice e)) (hinfo : (P.info? e).map (fun i => (i.zero, i.size, i.bytes)) = some (some z, size, bytes))
    (n : Nat) (hbytes : bytes * n ≤ 281474976710656) (h63 : n ≤ 9223372036854775807) (w : World) :
    (Instr.makeSlice t (.int .i64 (n : Int)) (.int .i64 (n : Int))).run P w = .ok (.slice (some ⟨w.heap.size, 0, none⟩) n n) (w.alloc (.cells (madeCells z.cells (n * size)) e)) := by
  obtain ⟨i, hi, hzz⟩ := Option.map_eq_some_iff.1 hinfo
  simp only [Prod.mk.injEq] at hzz
  obtain ⟨hz, hs, hb⟩ := hzz
  have hb' : (i.bytes : Int) * (n : Int) ≤ 281474976710656 := by
    have h : ((i.bytes * n : Nat) : Int) ≤ 281474976710656 := by rw [hb]; omega
    rwa [Int.natCast_mul] at h
  have hr := run_make (P := P) w t e i z ht hi hz .i64 .i64 n n (by omega) (Int.le_refl _) hb' (by omega)
  simp only [Int.toNat_natCast, hs] at hr
  exact hr
theorem there_below {B : Nat} {w w' : World} {b o n : Nat} (h : w.there b o n) (hw : Below B w w') (hb : b < B) : w'.there b o n := fun j hj => by
  have h0 := h j hj
  rw [hw.cell (p := ⟨b, o + j, none⟩) hb, hw.frozen (p := ⟨b, o + j, none⟩) hb]
  exact h0
theorem there_part {w : World} {b o n o' n' : Nat} (h : w.there b o n) (h0 : o ≤ o') (h1 : o' + n' ≤ o + n) : w.there b o' n' := fun j hj => by
  have := h (o' + j - o) (by omega)
  rwa [show o + (o' + j - o) = o' + j by omega] at this
/-- The first k places of a list that is made are filled: it lies in the block behind w; what its places lead to lies behind that. -/
structure Filled {α : Type} (S : Shape α) (w wr : World) (n k : Nat) (xs : List α) : Prop where
  below : Below w.heap.size w wr
  lt : w.heap.size < wr.heap.size
  done : ∀ j x, j < k → xs[j]? = some x → ∃ es, wr.rangeAt w.heap.size (j * S.size) es ∧ S.reads (From (w.heap.size + 1) wr.heap.size) wr es x
  rest : wr.there w.heap.size (k * S.size) ((n - k) * S.size)
theorem Filled.start {α : Type} (S : Shape α) (w : World) (n : Nat) (xs : List α) (z : Array Value) (e : TypeId) : Filled S w (w.alloc (.cells (madeCells z (n * S.size)) e)) n 0 xs where
  below := (Below.refl _ _).alloc (Nat.le_refl _) _
  lt := by simp
  done := fun j x hj => absurd hj (Nat.not_lt_zero _)
  rest := fun j hj => by
    have hj' : j < n * S.size := by simpa using hj
    have hb := heap_alloc_new w (.cells (madeCells z (n * S.size)) e)
    constructor
    · rw [cell_of_row _ _ _ _ _ _ hb]
      have : 0 * S.size + j < (madeCells z (n * S.size)).size := by rw [size_madeCells]; omega
      rw [Array.getElem?_eq_getElem this]
      rfl
    · exact frozen_of_row _ _ _ _ _ hb
theorem heap_setCells_other (g : Nat) : ∀ (cs : List Value) (o : Nat) (w : World) (b : Nat), b ≠ g → (w.setCells g o cs).heap[b]? = w.heap[b]?
  | [], _, _, _, _ => rfl
  | v :: vs, o, w, b, hb => by rw [World.setCells, heap_setCells_other g vs (o + 1) _ b hb]; exact Below.heap_setCell _ _ _ _ hb
theorem below_setCells {B : Nat} {a : World} (g : Nat) (hB : B ≤ g) : ∀ (cs : List Value) (o : Nat) (w : World), Below B a w → Below B a (w.setCells g o cs)
  | [], _, _, h => h
  | v :: vs, o, w, h => below_setCells g hB vs (o + 1) _ (h.setCell (p := ⟨g, o, none⟩) hB v)
theorem size_setCells (g : Nat) : ∀ (cs : List Value) (o : Nat) (w : World), (w.setCells g o cs).heap.size = w.heap.size
  | [], _, _ => rfl
  | v :: vs, o, w => by rw [World.setCells, size_setCells g vs (o + 1)]; simp
theorem Filled.step {α : Type} {S : Shape α} {w wr w1 : World} {n k : Nat} {xs : List α} {es : List Value} {x : α} (h : Filled S w wr n k xs) (hk : k < n) (hb : Below wr.heap.size wr w1) (hx : xs[k]? = some x)
    (hs : S.reads (From wr.heap.size w1.heap.size) w1 es x) : Filled S w (w1.setCells w.heap.size (k * S.size) es) n (k + 1) xs := by
  have hl := S.len hs
  have hlt := h.lt
  have hsz := hb.size
  have hmul : (n - k) * S.size = (n - (k + 1)) * S.size + S.size := by rw [show n - k = (n - (k + 1)) + 1 by omega, Nat.add_mul, Nat.one_mul]
  have hk1 : (k + 1) * S.size = k * S.size + S.size := by rw [Nat.add_mul, Nat.one_mul]
  have hth : w1.there w.heap.size (k * S.size) ((n - k) * S.size) := there_below h.rest hb hlt
  have hss := size_setCells w.heap.size es (k * S.size) w1
  refine ⟨below_setCells _ (Nat.le_refl _) _ _ _ (h.below.trans (hb.mono (Nat.le_of_lt hlt))), by omega, fun j y hj hy => ?_, ?_⟩
  · by_cases hjk : j < k
    · obtain ⟨es', hr, hs'⟩ := h.done j y hjk hy
      have hjl : j * S.size + S.size ≤ k * S.size := by
        have := Nat.mul_le_mul_right S.size (show j + 1 ≤ k by omega)
        rwa [Nat.add_mul, Nat.one_mul] at this
      refine ⟨es', World.rangeAt_setCells_apart (fun i v hv => (hb.cell (p := ⟨w.heap.size, j * S.size + i, none⟩) hlt).trans (hr i v hv)) _ _ _ (.inr (.inl (by rw [S.len hs']; exact hjl))), ?_⟩
      refine S.sub (S.keep hs' fun b hb' => ?_) fun b hb' => ⟨hb'.1, by rw [hss]; exact Nat.lt_of_lt_of_le hb'.2 hsz⟩
      rw [heap_setCells_other _ _ _ _ _ (by have := hb'.1; omega)]
      exact hb.block b hb'.2
    · obtain rfl : j = k := by omega
      rw [hx] at hy
      cases hy
      refine ⟨es, World.rangeAt_setCells_same _ _ _ _ (there_part hth (Nat.le_refl _) (by omega)), ?_⟩
      refine S.sub (S.keep hs fun b hb' => ?_) fun b hb' => ⟨by have := hb'.1; omega, by rw [hss]; exact hb'.2⟩
      exact heap_setCells_other _ _ _ _ _ (by have := hb'.1; omega)
  · exact World.there_setCells (there_part hth (by omega) (by omega)) _ _ _
theorem Filled.list {α : Type} {S : Shape α} {w wr : World} {n : Nat} {xs : List α} (h : Filled S w wr n n xs) (hl : xs.length = n) : ListAt S (From w.heap.size wr.heap.size) wr (some ⟨w.heap.size, 0, none⟩) n xs :=
  ⟨hl, fun j x hx => by
    obtain ⟨es, hr, hs⟩ := h.done j x (by rw [← hl]; exact (List.getElem?_eq_some_iff.1 hx).1) hx
    exact ⟨w.heap.size, 0, es, rfl, ⟨Nat.le_refl _, h.lt⟩, by rwa [Nat.zero_add], S.sub hs fun b hb => ⟨by have := hb.1; omega, hb.2⟩⟩⟩

/-! ### What is left behind so many places -/
def szN (b : Nat) (L : Int) : Int := if (b : Int) ≤ L then L - b else -1
theorem sum_zero {α : Type} (xs : List α) : Shape.sum (fun _ => 0) xs = 0 := by
  induction xs with
  | nil => rfl
  | cons x xs ih => simp [Shape.sum, ih]
theorem bulk_ints (xs : List Int) : (Shape.list Shape.int).bulk xs = xs.length := by
  show xs.length + Shape.sum (fun _ => 0) xs = xs.length
  rw [sum_zero]
  rfl
theorem sum_take {α : Type} (f : α → Nat) (xs : List α) (k : Nat) (x : α) (h : xs[k]? = some x) : Shape.sum f (xs.take (k + 1)) = Shape.sum f (xs.take k) + f x := by
  rw [List.take_add_one, h, Shape.sum_append]
  simp [Shape.sum]
theorem sum_take_le {α : Type} (f : α → Nat) (xs : List α) (k : Nat) : Shape.sum f (xs.take k) ≤ Shape.sum f xs := by
  have := Shape.sum_append f (xs.take k) (xs.drop k)
  rw [List.take_append_drop] at this
  omega
theorem bulk_mem {α : Type} (f : α → Nat) (xs : List α) (k : Nat) (x : α) (h : xs[k]? = some x) : f x ≤ Shape.sum f xs := by
  have h1 := sum_take f xs k x h
  have h2 := sum_take_le f xs (k + 1)
  omega
theorem bulk_list {α : Type} (S : Shape α) {I : Nat → Prop} {w : World} {a : Option Addr} {n : Nat} {xs : List α} (h : ListAt S I w a n xs) : (Shape.list S).bulk xs = n + Shape.sum S.bulk xs := by
  rw [← h.1]
  rfl

/-! ### A struct that is made in a variable of its own: the box of the argument, the box of the result, the variable -/
structure Boxes (w wr : World) (A Z O : Array Value) (TA T : TypeId) : Prop where
  below : Below w.heap.size w wr
  size : w.heap.size + 3 ≤ wr.heap.size
  a : wr.heap[w.heap.size]? = some (.cells A TA (0, 0))
  z : wr.heap[w.heap.size + 1]? = some (.cells Z T (0, 0))
  o : wr.heap[w.heap.size + 1 + 1]? = some (.cells O T (0, 0))
theorem Boxes.start (w : World) (A Z O : Array Value) (TA T : TypeId) : Boxes w (((w.alloc (.cells A TA (0, 0))).alloc (.cells Z T (0, 0))).alloc (.cells O T (0, 0))) A Z O TA T where
  below := (((Below.refl _ _).alloc (Nat.le_refl _) _).alloc (by simp) _).alloc (by simp; omega) _
  size := by simp
  a := by
    rw [Below.heap_alloc _ _ _ (by simp; omega), Below.heap_alloc _ _ _ (by simp)]
    exact heap_alloc_new w _
  z := by
    rw [Below.heap_alloc _ _ _ (by simp)]
    have := heap_alloc_new (w.alloc (.cells A TA (0, 0))) (.cells Z T (0, 0))
    simpa using this
  o := by
    have := heap_alloc_new ((w.alloc (.cells A TA (0, 0))).alloc (.cells Z T (0, 0))) (.cells O T (0, 0))
    simpa using this
theorem Boxes.call {w wr w1 : World} {A Z O : Array Value} {TA T : TypeId} (h : Boxes w wr A Z O TA T) (hb : Below wr.heap.size wr w1) : Boxes w w1 A Z O TA T := by
  have hs := h.size
  exact ⟨h.below.trans (hb.mono (by omega)), Nat.le_trans hs hb.size, (hb.block _ (by omega)).trans h.a, (hb.block _ (by omega)).trans h.z, (hb.block _ (by omega)).trans h.o⟩
theorem Boxes.store {w wr : World} {A Z O : Array Value} {TA T : TypeId} (h : Boxes w wr A Z O TA T) (i : Nat) (v : Value) : Boxes w (wr.setCell ⟨w.heap.size + 1 + 1, i, none⟩ v) A Z (O.setIfInBounds i v) TA T :=
  ⟨h.below.setCell (p := ⟨w.heap.size + 1 + 1, i, none⟩) (by show w.heap.size ≤ w.heap.size + 1 + 1; omega) v, by have := h.size; simpa using this,
    (heap_setCell_other _ _ _ _ (by show w.heap.size ≠ w.heap.size + 1 + 1; omega)).trans h.a, (heap_setCell_other _ _ _ _ (by show w.heap.size + 1 ≠ w.heap.size + 1 + 1; omega)).trans h.z,
    heap_setCell_same wr _ i O T v h.o⟩
theorem heap_setCells_all (g : Nat) (T : TypeId) : ∀ (vs pre old : List Value) (w : World), old.length = vs.length → w.heap[g]? = some (.cells (pre ++ old).toArray T (0, 0)) → (w.setCells g pre.length vs).heap[g]? = some (.cells (pre ++ vs).toArray T (0, 0))
  | [], pre, old, w, hl, h => by
    obtain rfl : old = [] := List.eq_nil_of_length_eq_zero hl
    exact h
  | v :: vs, pre, [], w, hl, h => by simp at hl
  | v :: vs, pre, u :: us, w, hl, h => by
    have h1 := heap_setCell_same w g pre.length _ T v h
    have h2 := heap_setCells_all g T vs (pre ++ [v]) us (w.setCell ⟨g, pre.length, none⟩ v) (by simpa using hl) (by
      rw [h1]
      simp)
    rw [List.length_append, List.length_singleton] at h2
    rw [World.setCells, h2]
    simp
theorem Boxes.result {w wr : World} {A Z O : Array Value} {TA T : TypeId} (h : Boxes w wr A Z O TA T) (vs : List Value) (hl : Z.size = vs.length) : (wr.setCells (w.heap.size + 1) 0 vs).heap[w.heap.size + 1]? = some (.cells vs.toArray T (0, 0)) := by
  have := heap_setCells_all (w.heap.size + 1) T vs [] Z.toList wr (by simpa using hl) (by simpa using h.z)
  simpa using this
theorem Boxes.last {w wr : World} {A Z O : Array Value} {TA T : TypeId} (h : Boxes w wr A Z O TA T) (vs : List Value) : Below w.heap.size w (wr.setCells (w.heap.size + 1) 0 vs) := below_setCells _ (by omega) _ _ _ h.below
/-- What lies behind the boxes stays there. -/
theorem ListAt.called {α : Type} {S : Shape α} {lo : Nat} {wr w1 : World} {a : Option Addr} {n : Nat} {xs : List α} (h : ListAt S (From lo wr.heap.size) wr a n xs) (hb : Below wr.heap.size wr w1) : ListAt S (From lo w1.heap.size) w1 a n xs :=
  (h.keep (fun b hb' => hb.block b hb'.2)).sub fun b hb' => ⟨hb'.1, Nat.lt_of_lt_of_le hb'.2 hb.size⟩
theorem ListAt.stored {α : Type} {S : Shape α} {lo : Nat} {wr : World} {a : Option Addr} {n : Nat} {xs : List α} (h : ListAt S (From lo wr.heap.size) wr a n xs) (g i : Nat) (v : Value) (hg : g < lo) : ListAt S (From lo (wr.setCell ⟨g, i, none⟩ v).heap.size) (wr.setCell ⟨g, i, none⟩ v) a n xs := by
  rw [show (wr.setCell ⟨g, i, none⟩ v).heap.size = wr.heap.size by simp]
  exact h.keep fun b hb' => heap_setCell_other _ _ _ _ (by have := hb'.1; show b ≠ g; omega)
theorem ListAt.lo {α : Type} {S : Shape α} {lo lo' hi : Nat} {w : World} {a : Option Addr} {n : Nat} {xs : List α} (h : ListAt S (From lo hi) w a n xs) (hl : lo' ≤ lo) : ListAt S (From lo' hi) w a n xs := h.sub fun b hb => ⟨Nat.le_trans hl hb.1, hb.2⟩
theorem ListAt.under {α : Type} {S : Shape α} {lo hi : Nat} {w : World} {a : Option Addr} {n : Nat} {xs : List α} (h : ListAt S (From lo hi) w a n xs) : ListAt S (Under hi) w a n xs := h.sub fun b hb => hb.2
theorem Shape.under {α : Type} (S : Shape α) {lo hi : Nat} {w : World} {cs : List Value} {d : α} (h : S.reads (From lo hi) w cs d) : S.reads (Under hi) w cs d := S.sub h fun b hb => hb.2
end Go.Proofs.YtpnifgpmleaohaaGreatDoor

end

/-! YtpnifgpmleaohaaGreatDoorZSat -/
section

namespace Go.Proofs.YtpnifgpmleaohaaGreatDoor

/-- A number taken into the range, and whether it was out of it. -/
def sat (x : Int) : Int := if 2147483647 < x then 2147483647 else if x < -2147483647 then -2147483647 else x
def satB (x : Int) : Bool := decide (2147483647 < x ∨ x < -2147483647)
theorem sat_hi {x : Int} (h : 2147483647 < x) : sat x = 2147483647 ∧ satB x = true := by simp [sat, satB, h]
theorem sat_lo {x : Int} (h : x < -2147483647) : sat x = -2147483647 ∧ satB x = true := by
  have h' : ¬ 2147483647 < x := by omega
  simp [sat, satB, h, h']
theorem sat_mid {x : Int} (h0 : -2147483647 ≤ x) (h1 : x ≤ 2147483647) : sat x = x ∧ satB x = false := by
  have h' : ¬ 2147483647 < x := by omega
  have h'' : ¬ x < -2147483647 := by omega
  simp [sat, satB, h', h'']
theorem sat_range (x : Int) : -2147483647 ≤ sat x ∧ sat x ≤ 2147483647 := by
  unfold sat
  split
  · omega
  · split <;> omega
theorem mul_range {a b : Int} (ha0 : -2147483647 ≤ a) (ha1 : a ≤ 2147483647) (hb0 : -2147483647 ≤ b) (hb1 : b ≤ 2147483647) : -4611686014132420609 ≤ a * b ∧ a * b ≤ 4611686014132420609 := by
  have h : (a * b).natAbs ≤ 2147483647 * 2147483647 := by
    rw [Int.natAbs_mul]
    exact Nat.mul_le_mul (by omega) (by omega)
  omega
/-- Is it from lo to hi? -/
def inB (lo hi x : Int) : Bool := decide (lo ≤ x ∧ x ≤ hi)
theorem inB_yes {lo hi x : Int} (h0 : lo ≤ x) (h1 : x ≤ hi) : inB lo hi x = true := decide_eq_true ⟨h0, h1⟩
theorem inB_no {lo hi x : Int} (h : x < lo ∨ hi < x) : inB lo hi x = false := decide_eq_false (by omega)
/-- The four operations. -/
def addN (a b : Int) : Int := sat (sat a + sat b)
def addB (a b : Int) : Bool := satB (sat a + sat b)
def subN (a b : Int) : Int := sat (sat a - sat b)
def subB (a b : Int) : Bool := satB (sat a - sat b)
def mulN (a b : Int) : Int := sat (sat a * sat b / 65536)
def mulB (a b : Int) : Bool := satB (sat a * sat b / 65536)
end Go.Proofs.YtpnifgpmleaohaaGreatDoor

end

/-! YtpnifgpmleaohaaGreatDoorZAs -/
section

namespace Go.Proofs.YtpnifgpmleaohaaGreatDoor
open Go.RowKit Go.Extern.Stop Go.Stop Go.Extern
set_option linter.unusedVariables false
set_option linter.unusedSimpArgs false

/-- What errors.As reads of the library's variables. -/
def LaidE (w : World) : Prop := w.cell? ⟨0, 0, none⟩ = some (.iface 294 (.agg #[.pointer (some ⟨1, 233, none⟩)]))
theorem LaidE.lt {w : World} (h : LaidE w) : 0 < w.heap.size := World.block_lt_of_cell? w _ h
theorem LaidE.below {w w' : World} {B : Nat} (h : LaidE w) (hB : 0 < B) (hb : Below B w w') : LaidE w' :=
  (hb.cell (p := ⟨0, 0, none⟩) hB).trans h

theorem as_valueOf1 (t : Addr) (w : World) : (ReflectliteValue.unpack (.iface 238 (.pointer (some t)))).run Tryz.prog w
    = .ok (.agg #[.pointer (some ⟨1, 238, none⟩), .pointer (some ⟨w.heap.size, 0, none⟩), .int .u64 150]) (w.alloc (.cells #[.pointer (some t)] 238)) := by kernel_rfl
theorem as_type1 (a : Addr) (w : World) : (ReflectliteValue.methodAny (ReflectliteValue.valueError "reflectlite.Value.Type" 0) (fun t _ _ _ => ReflectliteType.toType t) #[.agg #[.pointer (some ⟨1, 238, none⟩), .pointer (some a), .int .u64 150]]).run Tryz.prog w
    = .ok (.iface 294 (.agg #[.pointer (some ⟨1, 238, none⟩)])) w := by kernel_rfl
theorem as_mKind (h : Value) (w : World) : (Go.method 448 294 (.agg #[h]) "Kind").run Tryz.prog w = .ok (275, h) w := by kernel_rfl
theorem as_kind1 (w : World) : ((ReflectliteType.abiMethod fun t => (fun a : Nat => Value.int IntKind.u8 (a : Int)) <$> Rtype.kind t) #[.pointer (some ⟨1, 238, none⟩)]).run Tryz.prog w = .ok (.int .u8 22) w := by kernel_rfl
theorem as_kind0 (w : World) : ((ReflectliteType.abiMethod fun t => (fun a : Nat => Value.int IntKind.u8 (a : Int)) <$> Rtype.kind t) #[.pointer (some ⟨1, 236, none⟩)]).run Tryz.prog w = .ok (.int .u8 25) w := by kernel_rfl
theorem as_rlm (z : Sem Value) (f : TypeId → Addr → Nat → Nat → Sem Value) (v : Value) :
    ReflectliteValue.method z f #[v] = (do match ← ReflectliteValue.parts v with | none => z | some (t, a, fl) => f t a fl (fl % 32)) := rfl
theorem as_parts1 (a : Addr) (w : World) : (ReflectliteValue.parts (.agg #[.pointer (some ⟨1, 238, none⟩), .pointer (some a), .int .u64 150])).run Tryz.prog w = .ok (some (238, a, 150)) w := by kernel_rfl
theorem as_isNil1 (a p : Addr) (W : World) (ha : W.cell? a = some (.pointer (some p))) :
    (ReflectliteValue.method (ReflectliteValue.valueError "reflectlite.Value.IsNil" 0) ReflectliteValue.isNil #[.agg #[.pointer (some ⟨1, 238, none⟩), .pointer (some a), .int .u64 150]]).run Tryz.prog W = .ok (.bool false) W := by
  rw [as_rlm]
  simp only [Sem.run_bind, as_parts1, Result.andThen]
  simp [ReflectliteValue.isNil, loadVar, isAgg, underlying, Tryz.underlying238, ha, Result.andThen]
theorem as_mElem (h : Value) (w : World) : (Go.method 448 294 (.agg #[h]) "Elem").run Tryz.prog w = .ok (310, .agg #[h]) w := by kernel_rfl
theorem as_mImpl (h : Value) (w : World) : (Go.method 448 294 (.agg #[h]) "Implements").run Tryz.prog w = .ok (311, .agg #[h]) w := by kernel_rfl
theorem as_mAssign (h : Value) (w : World) : (Go.method 448 294 (.agg #[h]) "AssignableTo").run Tryz.prog w = .ok (308, .agg #[h]) w := by kernel_rfl
theorem as_elemT (w : World) : (ReflectliteType.method ReflectliteType.elem #[.agg #[.pointer (some ⟨1, 238, none⟩)]]).run Tryz.prog w = .ok (.iface 294 (.agg #[.pointer (some ⟨1, 236, none⟩)])) w := by kernel_rfl
theorem as_implements (w : World) : (ReflectliteType.relation "Implements" ReflectliteType.implements_ #[.agg #[.pointer (some ⟨1, 236, none⟩)], .iface 294 (.agg #[.pointer (some ⟨1, 233, none⟩)])]).run Tryz.prog w = .ok (.bool true) w := by kernel_rfl
theorem as_typeOf (v : Value) (w : World) : (ReflectliteType.typeOf #[.iface 236 v]).run Tryz.prog w = .ok (.iface 294 (.agg #[.pointer (some ⟨1, 236, none⟩)])) w := by kernel_rfl
theorem as_assignable (w : World) : (ReflectliteType.relation "AssignableTo" ReflectliteType.assignableTo #[.agg #[.pointer (some ⟨1, 236, none⟩)], .iface 294 (.agg #[.pointer (some ⟨1, 236, none⟩)])]).run Tryz.prog w = .ok (.bool true) w := by kernel_rfl
theorem as_valueOf0 (n : Int) (w : World) : (ReflectliteValue.unpack (.iface 236 (.agg #[.int .i64 n]))).run Tryz.prog w
    = .ok (.agg #[.pointer (some ⟨1, 236, none⟩), .pointer (some ⟨w.heap.size, 0, none⟩), .int .u64 153]) (w.alloc (.cells #[.int .i64 n] 236)) := by kernel_rfl
theorem as_elemOf (w : World) : (Rtype.elem? 238).run Tryz.prog w = .ok (some 236) w := by kernel_rfl
theorem as_mk0 (p : Addr) (w : World) : (ReflectliteValue.mk 236 p ReflectliteValue.flagAddr).run Tryz.prog w = .ok (.agg #[.pointer (some ⟨1, 236, none⟩), .pointer (some p), .int .u64 409]) w := by kernel_rfl
theorem as_elemV (a p : Addr) (W : World) (ha : W.cell? a = some (.pointer (some p))) :
    (ReflectliteValue.method (ReflectliteValue.valueError "reflectlite.Value.Elem" 0) ReflectliteValue.elem #[.agg #[.pointer (some ⟨1, 238, none⟩), .pointer (some a), .int .u64 150]]).run Tryz.prog W
      = .ok (.agg #[.pointer (some ⟨1, 236, none⟩), .pointer (some p), .int .u64 409]) W := by
  rw [as_rlm]
  simp only [Sem.run_bind, as_parts1, Result.andThen]
  simp [ReflectliteValue.elem, loadVar, isAgg, underlying, Tryz.underlying238, ha, Result.andThen, as_elemOf, as_mk0]
theorem as_rls (v x : Value) : ReflectliteValue.set #[v, x] = (do
    let (some (dst, a, fl), some (src, b, _)) := (← ReflectliteValue.parts v, ← ReflectliteValue.parts x)
      | unsupported (.noEntry "extern/(internal/reflectlite.Value).Set.zeroValue")
    if fl / ReflectliteValue.flagAddr % 2 == 0 then unsupported (.noEntry "extern/(internal/reflectlite.Value).Set.unaddressable")
    let val ← loadVar src b
    if ← Rtype.directlyAssignable dst src then storeVar dst a val
    else if ← Rtype.implements dst src then
      if (← Rtype.kind src) == 20 then
        match val with
        | .nilIface => unsupported (.noEntry "extern/reflectlite: a nil value of one interface type handed on as a value of another")
        | _ => storeVar dst a val
      else storeVar dst a (.iface src val)
    else panicString ("reflectlite.Set: value of type " ++ (← Rtype.spelt src) ++ " is not assignable to type " ++ (← Rtype.spelt dst))
    pure (.tuple #[])) := rfl
theorem as_parts0a (a : Addr) (w : World) : (ReflectliteValue.parts (.agg #[.pointer (some ⟨1, 236, none⟩), .pointer (some a), .int .u64 409])).run Tryz.prog w = .ok (some (236, a, 409)) w := by kernel_rfl
theorem as_parts0 (a : Addr) (w : World) : (ReflectliteValue.parts (.agg #[.pointer (some ⟨1, 236, none⟩), .pointer (some a), .int .u64 153])).run Tryz.prog w = .ok (some (236, a, 153)) w := by kernel_rfl
theorem as_direct (w : World) : (Rtype.directlyAssignable 236 236).run Tryz.prog w = .ok true w := by kernel_rfl
theorem as_size (w : World) : (sizeOf 236).run Tryz.prog w = .ok 1 w := by kernel_rfl
theorem as_agg (w : World) : (isAgg 236).run Tryz.prog w = .ok true w := by kernel_rfl
theorem as_load0 (b : Addr) (n : Int) (W : World) (hb : W.cell? b = some (.int .i64 n)) : (loadVar 236 b).run Tryz.prog W = .ok (.agg #[.int .i64 n]) W := by
  have h0 : W.cell? (b.add 0) = some (.int .i64 n) := by simpa [Addr.add] using hb
  simp [loadVar, as_agg, as_size, Result.andThen, loadCells, loadCellsFrom, h0]
theorem as_set (ta b : Addr) (n : Int) (old : Value) (W : World) (hb : W.cell? b = some (.int .i64 n)) (ht : W.cell? ta = some old) (hf : W.frozen? ta = false) :
    (ReflectliteValue.set #[.agg #[.pointer (some ⟨1, 236, none⟩), .pointer (some ta), .int .u64 409], .agg #[.pointer (some ⟨1, 236, none⟩), .pointer (some b), .int .u64 153]]).run Tryz.prog W
      = .ok (.tuple #[]) (W.setCell ta (.int .i64 n)) := by
  rw [as_rls]
  simp only [Sem.run_bind, as_parts0a, as_parts0, Result.andThen]
  simp [ReflectliteValue.flagAddr, as_load0 b n W hb, Result.andThen, as_direct, storeVar, Value.cells, as_size, storeCells, Addr.add]
  rw [run_store Tryz.prog W ta _ _ (by rfl)]
  simp [ht, hf]

set_option maxHeartbeats 4000000 in
theorem as_hit (n : Int) (t : Addr) (old : Value) (w : World) (hg : LaidE w) (ht0 : w.cell? t = some old) (hf0 : w.frozen? t = false) :
    Calls Tryz.prog 208 #[.iface 236 (.agg #[.int .i64 n]), .iface 238 (.pointer (some t))] w fun ev w' => ev = .returned (.bool true) ∧ w' = ((((w.alloc (.cells #[.pointer (some t)] 238)).alloc (.cells #[.pointer (some ⟨1, 238, none⟩), .pointer (some ⟨w.heap.size, 0, none⟩), .int .u64 150] 269)).alloc (.cells #[.pointer (some ⟨1, 238, none⟩), .pointer (some ⟨w.heap.size, 0, none⟩), .int .u64 150] 269)).alloc (.cells #[.int .i64 n] 236)).setCell t (.int .i64 n) := by
  have h6 := @run_callFunc_extern Tryz.prog 231 _ (fun args => ReflectliteValue.unpack (args.getD 0 (.tuple #[]))) Tryz.func231 (by kernel_rfl) (by kernel_rfl) (by kernel_rfl) (by kernel_rfl)
  have h7 := @run_callFunc_extern Tryz.prog 232 _ (ReflectliteValue.methodAny (ReflectliteValue.valueError "reflectlite.Value.Type" 0) (fun t _ _ _ => ReflectliteType.toType t)) Tryz.func232 (by kernel_rfl) (by kernel_rfl) (by kernel_rfl) (by kernel_rfl)
  have h8 := @run_callFunc_extern Tryz.prog 233 _ (ReflectliteValue.method (ReflectliteValue.valueError "reflectlite.Value.IsNil" 0) ReflectliteValue.isNil) Tryz.func233 (by kernel_rfl) (by kernel_rfl) (by kernel_rfl) (by kernel_rfl)
  have h27 := @run_callFunc_extern Tryz.prog 275 _ (ReflectliteType.abiMethod fun t => do pure (.int .u8 (← Rtype.kind t))) Tryz.func275 (by kernel_rfl) (by kernel_rfl) (by kernel_rfl) (by kernel_rfl)
  have h37 := @run_callFunc_extern Tryz.prog 310 _ (ReflectliteType.method ReflectliteType.elem) Tryz.func310 (by kernel_rfl) (by kernel_rfl) (by kernel_rfl) (by kernel_rfl)
  have h38 := @run_callFunc_extern Tryz.prog 311 _ (ReflectliteType.relation "Implements" ReflectliteType.implements_) Tryz.func311 (by kernel_rfl) (by kernel_rfl) (by kernel_rfl) (by kernel_rfl)
  have h10 := @run_callFunc_extern Tryz.prog 251 _ ReflectliteType.typeOf Tryz.func251 (by kernel_rfl) (by kernel_rfl) (by kernel_rfl) (by kernel_rfl)
  have h35 := @run_callFunc_extern Tryz.prog 308 _ (ReflectliteType.relation "AssignableTo" ReflectliteType.assignableTo) Tryz.func308 (by kernel_rfl) (by kernel_rfl) (by kernel_rfl) (by kernel_rfl)
  have h11 := @run_callFunc_extern Tryz.prog 252 _ (ReflectliteValue.method (ReflectliteValue.valueError "reflectlite.Value.Elem" 0) ReflectliteValue.elem) Tryz.func252 (by kernel_rfl) (by kernel_rfl) (by kernel_rfl) (by kernel_rfl)
  have h12 := @run_callFunc_extern Tryz.prog 253 _ ReflectliteValue.set Tryz.func253 (by kernel_rfl) (by kernel_rfl) (by kernel_rfl) (by kernel_rfl)
  have tO := as_typeOf
  have mA := as_mAssign
  have a25 := as_assignable
  have v25 := as_valueOf0
  have f6 := as_valueOf1
  have f7 := as_type1
  have mK := as_mKind
  have mE := as_mElem
  have mI := as_mImpl
  have k27 := as_kind1
  have k25 := as_kind0
  have e27 := as_elemT
  have i25 := as_implements
  have n8 := as_isNil1 ⟨w.heap.size, 0, none⟩ t ((w.alloc (.cells #[.pointer (some t)] 238)).alloc (.cells #[.pointer (some ⟨1, 238, none⟩), .pointer (some ⟨w.heap.size, 0, none⟩), .int .u64 150] 269)) (by simp)
  have hlt := hg.lt
  have hg2 : ((w.alloc (.cells #[.pointer (some t)] 238)).alloc (.cells #[.pointer (some ⟨1, 238, none⟩), .pointer (some ⟨w.heap.size, 0, none⟩), .int .u64 150] 269)).cell? ⟨0, 0, none⟩ = some (.iface 294 (.agg #[.pointer (some ⟨1, 233, none⟩)])) := by
    rw [World.cell?_alloc_lt _ _ ⟨0, 0, none⟩ (by simp <;> omega), World.cell?_alloc_lt _ _ ⟨0, 0, none⟩ hlt]; exact hg
  have htl : t.block < w.heap.size := by
    rcases Nat.lt_or_ge t.block w.heap.size with h | h
    · exact h
    · simp [World.cell?, Array.getElem?_eq_none h] at ht0
  have el := as_elemV ⟨w.heap.size, 0, none⟩ t (((w.alloc (.cells #[.pointer (some t)] 238)).alloc (.cells #[.pointer (some ⟨1, 238, none⟩), .pointer (some ⟨w.heap.size, 0, none⟩), .int .u64 150] 269)).alloc (.cells #[.pointer (some ⟨1, 238, none⟩), .pointer (some ⟨w.heap.size, 0, none⟩), .int .u64 150] 269)) (by rw [World.cell?_alloc_lt _ _ ⟨w.heap.size, 0, none⟩ (by simp; omega)]; simp)
  have st := as_set t ⟨w.heap.size + 1 + 1 + 1, 0, none⟩ n old ((((w.alloc (.cells #[.pointer (some t)] 238)).alloc (.cells #[.pointer (some ⟨1, 238, none⟩), .pointer (some ⟨w.heap.size, 0, none⟩), .int .u64 150] 269)).alloc (.cells #[.pointer (some ⟨1, 238, none⟩), .pointer (some ⟨w.heap.size, 0, none⟩), .int .u64 150] 269)).alloc (.cells #[.int .i64 n] 236))
    (by rw [World.cell?_alloc_at _ _ _ _ (by simp)]; rfl)
    (by rw [World.cell?_alloc_lt _ _ t (by simp; omega), World.cell?_alloc_lt _ _ t (by simp; omega), World.cell?_alloc_lt _ _ t (by simp; omega), World.cell?_alloc_lt _ _ t htl]; exact ht0)
    (by rw [World.frozen?_alloc_old _ _ t (by simp; omega), World.frozen?_alloc_old _ _ t (by simp; omega), World.frozen?_alloc_old _ _ t (by simp; omega), World.frozen?_alloc_old _ _ t (Nat.ne_of_lt htl)]; exact hf0)
  clear hg ht0 hf0
  go_enter Tryz.func208, Tryz.ntmps208
  go_wp2
  refine wp_loop_rounds 1 ?_
  rw [rounds_succ]
  go_wp2
  go_ret
  exact ⟨rfl, rfl⟩
end Go.Proofs.YtpnifgpmleaohaaGreatDoor

end

/-! YtpnifgpmleaohaaGreatDoorZFix -/
section

namespace Go.Proofs.YtpnifgpmleaohaaGreatDoor
open Go.RowKit
set_option linter.unusedVariables false

theorem fix_ret {a b : Int} (h : a = b) : Ending.returned (.int .i64 a) = .returned (.int .i64 b) := by rw [h]
theorem inRange_mid (x : Int) (w : World) (h0 : -2147483647 ≤ x) (h1 : x ≤ 2147483647) :
    Calls Tryz.prog 207 #[.int .i64 x] w fun e w' => e = .returned .nilIface ∧ w = w' := by
  go_enter Tryz.func207, Tryz.ntmps207
  go_wp2
  go_ret
  exact ⟨rfl, rfl⟩
theorem inRange_hi (x : Int) (w : World) (h0 : 2147483647 < x) :
    Calls Tryz.prog 207 #[.int .i64 x] w fun e w' => e = .returned (.iface 236 (.agg #[.int .i64 2147483647])) ∧ w = w' := by
  go_enter Tryz.func207, Tryz.ntmps207
  go_wp2
  go_ret
  exact ⟨rfl, rfl⟩
theorem inRange_lo (x : Int) (w : World) (h0 : x < -2147483647) :
    Calls Tryz.prog 207 #[.int .i64 x] w fun e w' => e = .returned (.iface 236 (.agg #[.int .i64 (-2147483647)])) ∧ w = w' := by
  go_enter Tryz.func207, Tryz.ntmps207
  go_wp2
  go_ret
  exact ⟨rfl, rfl⟩

/-- errors.As at a target that the call itself has made. -/
theorem as_new (n : Int) (w : World) (hg : LaidE w) :
    Calls Tryz.prog 208 #[.iface 236 (.agg #[.int .i64 n]), .iface 238 (.pointer (some ⟨w.heap.size, 0, none⟩))] (w.alloc (.cells #[.int .i64 0] 236)) fun e w' => e = .returned (.bool true) ∧ w'.cell? ⟨w.heap.size, 0, none⟩ = some (.int .i64 n) ∧ Below w.heap.size w w' := by
  have hg' : LaidE (w.alloc (.cells #[.int .i64 0] 236)) := hg.below hg.lt ((Below.refl _ _).alloc (Nat.le_refl _) _)
  refine (as_hit n ⟨w.heap.size, 0, none⟩ (.int .i64 0) _ hg' (by simp) (by simp)).mono fun e w' ⟨he, hw⟩ => ⟨he, ?_, ?_⟩
  · rw [hw]
    refine World.cell?_setCell_same _ _ _ (u := .int .i64 0) ?_
    rw [World.cell?_alloc_lt _ _ ⟨w.heap.size, 0, none⟩ (by simp; omega), World.cell?_alloc_lt _ _ ⟨w.heap.size, 0, none⟩ (by simp; omega), World.cell?_alloc_lt _ _ ⟨w.heap.size, 0, none⟩ (by simp; omega), World.cell?_alloc_lt _ _ ⟨w.heap.size, 0, none⟩ (by simp)]
    simp
  · rw [hw]
    exact ((((((Below.refl _ _).alloc (Nat.le_refl _) _).alloc (by simp) _).alloc (by simp; omega) _).alloc (by simp; omega) _).alloc (by simp; omega) _).setCell (Nat.le_refl _) _

theorem intoRange_any (x : Int) (w : World) (hg : LaidE w) :
    Calls Tryz.prog 166 #[.int .i64 x] w fun e w' => e = .returned (.tuple #[.int .i64 (sat x), .bool (satB x)]) ∧ Below w.heap.size w w' := by
  have HG := Lib.hid hg
  clear hg
  by_cases h1 : 2147483647 < x
  · have HS := Lib.hid (sat_hi h1)
    go_enter Tryz.func166, Tryz.ntmps166
    go_wp2_with fail
    refine (inRange_hi x _ h1).mono ?_
    rintro e w' ⟨rfl, rfl⟩
    go_wp2_with fail
    refine (as_new 2147483647 _ HG.out).mono ?_
    rintro e w1 ⟨rfl, hc, hb⟩
    go_wp2_with fail
    go_ret2
    exact ⟨by rw [HS.out.1, HS.out.2] <;> rfl, hb⟩
  · by_cases h2 : x < -2147483647
    · have HS := Lib.hid (sat_lo h2)
      go_enter Tryz.func166, Tryz.ntmps166
      go_wp2_with fail
      refine (inRange_lo x _ h2).mono ?_
      rintro e w' ⟨rfl, rfl⟩
      go_wp2_with fail
      refine (as_new (-2147483647) _ HG.out).mono ?_
      rintro e w1 ⟨rfl, hc, hb⟩
      go_wp2_with fail
      go_ret2
      exact ⟨by rw [HS.out.1, HS.out.2] <;> rfl, hb⟩
    · have g1 : -2147483647 ≤ x := by omega
      have g2 : x ≤ 2147483647 := by omega
      have HS := Lib.hid (sat_mid g1 g2)
      clear h1 h2
      go_enter Tryz.func166, Tryz.ntmps166
      go_wp2_with fail
      refine (inRange_mid x _ g1 g2).mono ?_
      rintro e w' ⟨rfl, rfl⟩
      go_wp2_with fail
      go_ret2
      exact ⟨by rw [HS.out.1, HS.out.2] <;> rfl, Below.refl _ _⟩

theorem nearest_any (x : Int) (w : World) (hg : LaidE w) :
    Calls Tryz.prog 167 #[.int .i64 x] w fun e w' => e = .returned (.int .i64 (sat x)) ∧ Below w.heap.size w w' := by
  have HG := Lib.hid hg
  clear hg
  go_enter Tryz.func167, Tryz.ntmps167
  go_wp2_with fail
  refine (intoRange_any x _ HG.out).mono ?_
  rintro e w1 ⟨rfl, hb⟩
  go_wp2_with fail
  go_ret
  exact ⟨rfl, hb⟩

theorem implFixAdd_any (a b : Int) (w : World) (hg : LaidE w) :
    Calls Tryz.prog 101 #[.int .i64 a, .int .i64 b] w fun e w' => e = .returned (.tuple #[.int .i64 (addN a b), .bool (addB a b)]) ∧ Below w.heap.size w w' := by
  have HG := Lib.hid hg
  have hlt := hg.lt
  clear hg
  obtain ⟨a0, a1⟩ := sat_range a
  obtain ⟨b0, b1⟩ := sat_range b
  go_enter Tryz.func101, Tryz.ntmps101
  go_wp2_with fail
  refine (nearest_any a _ HG.out).mono ?_
  rintro e w1 ⟨rfl, hb1⟩
  go_wp2_with fail
  refine (nearest_any b _ (HG.out.below hlt hb1)).mono ?_
  rintro e w2 ⟨rfl, hb2⟩
  have hb12 := hb1.trans (hb2.mono hb1.size)
  go_wp2_with fail
  refine (intoRange_any (sat a + sat b) _ (HG.out.below hlt hb12)).mono ?_
  rintro e w3 ⟨rfl, hb3⟩
  go_wp2_with fail
  go_ret2
  exact ⟨rfl, hb12.trans (hb3.mono hb12.size)⟩

theorem implFixSub_any (a b : Int) (w : World) (hg : LaidE w) :
    Calls Tryz.prog 170 #[.int .i64 a, .int .i64 b] w fun e w' => e = .returned (.tuple #[.int .i64 (subN a b), .bool (subB a b)]) ∧ Below w.heap.size w w' := by
  have HG := Lib.hid hg
  have hlt := hg.lt
  clear hg
  obtain ⟨a0, a1⟩ := sat_range a
  obtain ⟨b0, b1⟩ := sat_range b
  go_enter Tryz.func170, Tryz.ntmps170
  go_wp2_with fail
  refine (nearest_any a _ HG.out).mono ?_
  rintro e w1 ⟨rfl, hb1⟩
  go_wp2_with fail
  refine (nearest_any b _ (HG.out.below hlt hb1)).mono ?_
  rintro e w2 ⟨rfl, hb2⟩
  have hb12 := hb1.trans (hb2.mono hb1.size)
  go_wp2_with fail
  refine (intoRange_any (sat a - sat b) _ (HG.out.below hlt hb12)).mono ?_
  rintro e w3 ⟨rfl, hb3⟩
  go_wp2_with fail
  go_ret2
  exact ⟨rfl, hb12.trans (hb3.mono hb12.size)⟩

theorem implFixMul_any (a b : Int) (w : World) (hg : LaidE w) :
    Calls Tryz.prog 211 #[.int .i64 a, .int .i64 b] w fun e w' => e = .returned (.tuple #[.int .i64 (mulN a b), .bool (mulB a b)]) ∧ Below w.heap.size w w' := by
  have HG := Lib.hid hg
  have hlt := hg.lt
  clear hg
  obtain ⟨a0, a1⟩ := sat_range a
  obtain ⟨b0, b1⟩ := sat_range b
  obtain ⟨m0, m1⟩ := mul_range a0 a1 b0 b1
  go_enter Tryz.func211, Tryz.ntmps211
  go_wp2_with fail
  refine (nearest_any a _ HG.out).mono ?_
  rintro e w1 ⟨rfl, hb1⟩
  go_wp2_with fail
  refine (nearest_any b _ (HG.out.below hlt hb1)).mono ?_
  rintro e w2 ⟨rfl, hb2⟩
  have hb12 := hb1.trans (hb2.mono hb1.size)
  go_wp2_with fail
  refine (intoRange_any (sat a * sat b / 65536) _ (HG.out.below hlt hb12)).mono ?_
  rintro e w3 ⟨rfl, hb3⟩
  go_wp2_with fail
  go_ret2
  exact ⟨rfl, hb12.trans (hb3.mono hb12.size)⟩

def reluN (a : Int) : Int := if 0 < sat a then sat a else 0
theorem implRelu_any (a : Int) (w : World) (hg : LaidE w) :
    Calls Tryz.prog 298 #[.int .i64 a] w fun e w' => e = .returned (.int .i64 (reluN a)) ∧ Below w.heap.size w w' := by
  have HG := Lib.hid hg
  clear hg
  obtain ⟨a0, a1⟩ := sat_range a
  by_cases h : 0 < sat a
  · have HR : Hid (reluN a = sat a) := Lib.hid (if_pos h)
    go_enter Tryz.func298, Tryz.ntmps298
    go_wp2_with fail
    refine (nearest_any a _ HG.out).mono ?_
    rintro e w1 ⟨rfl, hb1⟩
    go_wp2_with fail
    go_ret
    exact ⟨by rw [HR.out] <;> rfl, hb1⟩
  · have HR : Hid (reluN a = 0) := Lib.hid (if_neg h)
    go_enter Tryz.func298, Tryz.ntmps298
    go_wp2_with fail
    refine (nearest_any a _ HG.out).mono ?_
    rintro e w1 ⟨rfl, hb1⟩
    go_wp2_with fail
    all_goals (go_ret; exact ⟨fix_ret (by rw [HR.out] <;> omega), hb1⟩)

def okB (x : Int) : Bool := inB (-2147483647) 2147483647 x
theorem okB_yes {x : Int} (h0 : -2147483647 ≤ x) (h1 : x ≤ 2147483647) : okB x = true := inB_yes h0 h1
theorem okB_no {x : Int} (h : x < -2147483647 ∨ 2147483647 < x) : okB x = false := inB_no h
theorem implFixOk_any (x : Int) (w : World) :
    Calls Tryz.prog 226 #[.int .i64 x] w fun e w' => e = .returned (.bool (okB x)) ∧ w = w' := by
  by_cases h1 : 2147483647 < x
  · have HS := Lib.hid (okB_no (Or.inr h1))
    go_enter Tryz.func226, Tryz.ntmps226
    go_wp2_with fail
    refine (inRange_hi x _ h1).mono ?_
    rintro e w' ⟨rfl, rfl⟩
    go_wp2_with fail
    go_ret
    exact ⟨by rw [HS.out] <;> rfl, rfl⟩
  · by_cases h2 : x < -2147483647
    · have HS := Lib.hid (okB_no (Or.inl h2))
      go_enter Tryz.func226, Tryz.ntmps226
      go_wp2_with fail
      refine (inRange_lo x _ h2).mono ?_
      rintro e w' ⟨rfl, rfl⟩
      go_wp2_with fail
      go_ret
      exact ⟨by rw [HS.out] <;> rfl, rfl⟩
    · have g1 : -2147483647 ≤ x := by omega
      have g2 : x ≤ 2147483647 := by omega
      have HS := Lib.hid (okB_yes g1 g2)
      clear h1 h2
      go_enter Tryz.func226, Tryz.ntmps226
      go_wp2_with fail
      refine (inRange_mid x _ g1 g2).mono ?_
      rintro e w' ⟨rfl, rfl⟩
      go_wp2_with fail
      go_ret
      exact ⟨by rw [HS.out] <;> rfl, rfl⟩
end Go.Proofs.YtpnifgpmleaohaaGreatDoor

end
