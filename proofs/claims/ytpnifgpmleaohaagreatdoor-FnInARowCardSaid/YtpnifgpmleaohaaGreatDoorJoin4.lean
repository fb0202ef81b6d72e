import Derived.Test.YtpnifgpmleaohaaGreatDoorJoin1
import Derived.Test.YtpnifgpmleaohaaGreatDoorJoin3
import Derived.Test.YtpnifgpmleaohaaGreatDoorJoin2
import Derived.Deep.DeepCutAuto
import Derived.Deep.RegionLaw
import Derived.Lib.QuietBelow
/-! YtpnifgpmleaohaaGreatDoorZMat -/
section

namespace Go.Proofs.YtpnifgpmleaohaaGreatDoor
open Go.RowKit
set_option linter.unusedVariables false

theorem store3 {w : World} {g : Nat} {x y z : Value} {T : TypeId} (h : w.heap[g]? = some (.cells #[x, y, z] T (0, 0))) (a b c : Value) :
    (((w.setCell ⟨g, 0, none⟩ a).setCell ⟨g, 1, none⟩ b).setCell ⟨g, 2, none⟩ c).heap[g]? = some (.cells #[a, b, c] T (0, 0)) := by
  have h1 := heap_setCell_same w g 0 _ T a h
  have h2 := heap_setCell_same _ g 1 _ T b h1
  have h3 := heap_setCell_same _ g 2 _ T c h2
  exact h3
theorem Row.setBelow {base : Nat} {w : World} {v : Value} {zs : List Int} (h : Row base w v zs) {a : Addr} (ha : a.block < base) (u : Value) : Row base (w.setCell a u) v zs := ownsRow_setCell_below h ha u
theorem cells3 {w : World} {g : Nat} {x y z : Value} {T : TypeId} (h : w.heap[g]? = some (.cells #[x, y, z] T (0, 0))) :
    (w.cell? ⟨g, 0, none⟩ = some x ∧ w.cell? ⟨g, 1, none⟩ = some y ∧ w.cell? ⟨g, 2, none⟩ = some z) ∧ w.frozen? ⟨g, 0, none⟩ = false ∧ w.frozen? ⟨g, 1, none⟩ = false ∧ w.frozen? ⟨g, 2, none⟩ = false :=
  ⟨⟨by rw [cell_of_row _ _ _ _ _ _ h]; rfl, by rw [cell_of_row _ _ _ _ _ _ h]; rfl, by rw [cell_of_row _ _ _ _ _ _ h]; rfl⟩, frozen_of_row w g 0 _ _ h, frozen_of_row w g 1 _ _ h, frozen_of_row w g 2 _ _ h⟩

end Go.Proofs.YtpnifgpmleaohaaGreatDoor

end

/-! YtpnifgpmleaohaaGreatDoorZDeep -/
section

namespace Go.Proofs.YtpnifgpmleaohaaGreatDoor
open Go.RowKit Go.Sort
set_option linter.unusedVariables false
set_option linter.unusedSimpArgs false

/-- A row of the call's own, as a list. -/
theorem Row.listAt {base : Nat} {w : World} {v : Value} {xs : List Int} (h : Row base w v xs) : (Shape.list Shape.int).reads (From base w.heap.size) w [v] xs := by
  have hcs := fun g (h' : v.ownBlock = some g) => World.ownsRow.cells h (g := g) h'
  have hlt := World.ownsRow.lt h
  rcases h.2 with ⟨rfl, hn⟩ | ⟨g, cap, cur, rfl, _, hg, hc, hm, _⟩
  · obtain rfl : xs = [] := List.eq_nil_of_length_eq_zero hn
    exact ⟨none, 0, 0, rfl, Nat.le_refl _, by omega, rfl, fun j x hx => by simp at hx⟩
  · unfold maxLen at hm
    refine ⟨_, xs.length, cap, rfl, by omega, by omega, rfl, fun j x hx => ?_⟩
    have hj := (List.getElem?_eq_some_iff.1 hx).1
    have hxe : xs.getD j 0 = x := by rw [List.getD_eq_getElem?_getD, hx]; rfl
    refine ⟨g, 0, [.int .i64 x], rfl, hlt g rfl, fun i v hv => ?_, rfl⟩
    have := hcs g rfl j _ (icells_get xs j hj)
    rw [Addr.add_lit, hxe] at this
    cases i with
    | zero => cases hv; simpa [Shape.int] using this
    | succ i => simp at hv
abbrev dOp := Int × Int × Int × List Int
def shOp : Shape dOp := .struct (.cons Shape.int (.cons Shape.int (.cons Shape.int (.last (Shape.list Shape.int)))))
theorem shOp_size : shOp.size = 4 := rfl
theorem shOp_reads {I : Nat → Prop} {w : World} {cs : List Value} {d : dOp} : shOp.reads I w cs d ↔ ∃ a0 n0 c0, cs = [.int .i64 d.1, .int .i64 d.2.1, .int .i64 d.2.2.1, .slice a0 n0 c0] ∧ (n0 ≤ c0 ∧ c0 ≤ 9223372036854775807 ∧ ListAt Shape.int I w a0 n0 d.2.2.2) := by
  constructor
  · rintro ⟨_, _, rfl, rfl, _, _, rfl, rfl, _, _, rfl, rfl, ⟨a0, n0, c0, rfl, g0⟩⟩
    exact ⟨a0, n0, c0, rfl, g0⟩
  · rintro ⟨a0, n0, c0, rfl, g0⟩
    exact ⟨_, _, rfl, rfl, _, _, rfl, rfl, _, _, rfl, rfl, ⟨a0, n0, c0, rfl, g0⟩⟩
theorem shOp_bulk (d : dOp) : shOp.bulk d = (Shape.list Shape.int).bulk d.2.2.2 := by
  simp only [shOp, Shape.struct, FieldsOf.cons, FieldsOf.last, Shape.int, Shape.bool]
  try omega
abbrev dRow := List Int
def shRow : Shape dRow := .struct (.last (Shape.list Shape.int))
theorem shRow_size : shRow.size = 1 := rfl
theorem shRow_reads {I : Nat → Prop} {w : World} {cs : List Value} {d : dRow} : shRow.reads I w cs d ↔ ∃ a0 n0 c0, cs = [.slice a0 n0 c0] ∧ (n0 ≤ c0 ∧ c0 ≤ 9223372036854775807 ∧ ListAt Shape.int I w a0 n0 d) := by
  constructor
  · rintro ⟨a0, n0, c0, rfl, g0⟩
    exact ⟨a0, n0, c0, rfl, g0⟩
  · rintro ⟨a0, n0, c0, rfl, g0⟩
    exact ⟨a0, n0, c0, rfl, g0⟩
theorem shRow_bulk (d : dRow) : shRow.bulk d = (Shape.list Shape.int).bulk d := by
  rfl
abbrev dPair := List Int × List Int
def shPair : Shape dPair := .struct (.cons (Shape.list Shape.int) (.last (Shape.list Shape.int)))
theorem shPair_size : shPair.size = 2 := rfl
theorem shPair_reads {I : Nat → Prop} {w : World} {cs : List Value} {d : dPair} : shPair.reads I w cs d ↔ ∃ a0 n0 c0 a1 n1 c1, cs = [.slice a0 n0 c0, .slice a1 n1 c1] ∧ (n0 ≤ c0 ∧ c0 ≤ 9223372036854775807 ∧ ListAt Shape.int I w a0 n0 d.1) ∧ (n1 ≤ c1 ∧ c1 ≤ 9223372036854775807 ∧ ListAt Shape.int I w a1 n1 d.2) := by
  constructor
  · rintro ⟨_, _, rfl, ⟨a0, n0, c0, rfl, g0⟩, ⟨a1, n1, c1, rfl, g1⟩⟩
    exact ⟨a0, n0, c0, a1, n1, c1, rfl, g0, g1⟩
  · rintro ⟨a0, n0, c0, a1, n1, c1, rfl, g0, g1⟩
    exact ⟨_, _, rfl, ⟨a0, n0, c0, rfl, g0⟩, ⟨a1, n1, c1, rfl, g1⟩⟩
theorem shPair_bulk (d : dPair) : shPair.bulk d = (Shape.list Shape.int).bulk d.1 + (Shape.list Shape.int).bulk d.2 := by
  simp only [shPair, Shape.struct, FieldsOf.cons, FieldsOf.last, Shape.int, Shape.bool]
  try omega
abbrev dModel := List dOp
def shModel : Shape dModel := .struct (.last (Shape.list shOp))
theorem shModel_reads {I : Nat → Prop} {w : World} {cs : List Value} {d : dModel} : shModel.reads I w cs d ↔ ∃ a0 n0 c0, cs = [.slice a0 n0 c0] ∧ (n0 ≤ c0 ∧ c0 ≤ 9223372036854775807 ∧ ListAt shOp I w a0 n0 d) := by
  constructor
  · rintro ⟨a0, n0, c0, rfl, g0⟩
    exact ⟨a0, n0, c0, rfl, g0⟩
  · rintro ⟨a0, n0, c0, rfl, g0⟩
    exact ⟨a0, n0, c0, rfl, g0⟩
abbrev dGrads := List dRow × Int × Bool
def shGrads : Shape dGrads := .struct (.cons (Shape.list shRow) (.cons Shape.int (.last Shape.bool)))
theorem shGrads_reads {I : Nat → Prop} {w : World} {cs : List Value} {d : dGrads} : shGrads.reads I w cs d ↔ ∃ a0 n0 c0, cs = [.slice a0 n0 c0, .int .i64 d.2.1, .bool d.2.2] ∧ (n0 ≤ c0 ∧ c0 ≤ 9223372036854775807 ∧ ListAt shRow I w a0 n0 d.1) := by
  constructor
  · rintro ⟨_, _, rfl, ⟨a0, n0, c0, rfl, g0⟩, _, _, rfl, rfl, rfl⟩
    exact ⟨a0, n0, c0, rfl, g0⟩
  · rintro ⟨a0, n0, c0, rfl, g0⟩
    exact ⟨_, _, rfl, ⟨a0, n0, c0, rfl, g0⟩, _, _, rfl, rfl, rfl⟩
theorem shGrads_bulk (d : dGrads) : shGrads.bulk d = (Shape.list shRow).bulk d.1 := by
  simp only [shGrads, Shape.struct, FieldsOf.cons, FieldsOf.last, Shape.int, Shape.bool]
  try omega
end Go.Proofs.YtpnifgpmleaohaaGreatDoor

end

/-! YtpnifgpmleaohaaGreatDoorZOpM -/
section

namespace Go.Proofs.YtpnifgpmleaohaaGreatDoor
set_option linter.unusedVariables false

/-- How many parameters a kind has. -/
def opSz (k i o : Int) : Int := if inB 1 6 i && inB 1 6 o then (if k = 1 ∨ k = 5 then i * o else if k = 2 then i else if k = 4 then 1 else 0) else 0
/-- Is it a right operation? -/
def opOkB (k i o : Int) (ps : List Int) : Bool := inB 1 5 k && inB 1 6 i && inB 1 6 o && (decide (k = 1) || decide (i = o)) && decide ((ps.length : Int) = opSz k i o) && ps.all okB
theorem opOkB_has {k i o : Int} {ps : List Int} (h : opOkB k i o ps = true) :
    ∃ m n : Nat, i = m ∧ o = n ∧ (1 ≤ m ∧ m ≤ 6) ∧ (1 ≤ n ∧ n ≤ 6) ∧ (k = 1 ∨ i = o) ∧ inB 1 5 k = true ∧ (ps.length : Int) = opSz k i o ∧ ps.all okB = true := by
  unfold opOkB at h
  simp only [Bool.and_eq_true, Bool.or_eq_true, decide_eq_true_eq] at h
  obtain ⟨⟨⟨⟨⟨h1, h2⟩, h3⟩, h4⟩, h5⟩, h6⟩ := h
  obtain ⟨a0, a1⟩ := inB_has h2
  obtain ⟨b0, b1⟩ := inB_has h3
  exact ⟨i.toNat, o.toNat, by omega, by omega, ⟨by omega, by omega⟩, ⟨by omega, by omega⟩, h4, h1, h5, h6⟩
theorem opSz_in {k : Int} {m n : Nat} (hm : 1 ≤ m ∧ m ≤ 6) (hn : 1 ≤ n ∧ n ≤ 6) : opSz k m n = (if k = 1 ∨ k = 5 then (m : Int) * n else if k = 2 then (m : Int) else if k = 4 then 1 else 0) := by
  unfold opSz
  rw [inB_yes (by omega) (by omega), inB_yes (by omega) (by omega)]
  rfl
/-- What goes ahead. -/
def fwOk (k i o : Int) (ps xs : List Int) : Bool := opOkB k i o ps && vecOkB xs && decide ((xs.length : Int) = i)
def fwN (k i o : Int) (ps xs : List Int) : List Int :=
  if fwOk k i o ps xs then (if k = 1 then mvN o i ps xs else if k = 2 then rowP addN xs ps else if k = 3 then rowP (fun x _ => reluN x) xs xs else if k = 4 then scaleN (ps.getD 0 0) xs else rowP addN xs (mvN o i ps xs)) else []
def fwB (k i o : Int) (ps xs : List Int) : Bool :=
  fwOk k i o ps xs && (if k = 1 then mvB o i ps xs else if k = 2 then flagP addB xs ps else if k = 3 then false else if k = 4 then scaleB (ps.getD 0 0) xs else mvB o i ps xs || flagP addB xs (mvN o i ps xs))
/-- What goes back: ahead of it, the gradients, the mark. -/
def bwOk (k i o : Int) (ps xs ds : List Int) : Bool := fwOk k i o ps xs && vecOkB ds && decide ((ds.length : Int) = o)
def bwN (k i o : Int) (ps xs ds : List Int) : List Int :=
  if bwOk k i o ps xs ds then (if k = 1 then mbN o i ps ds else if k = 2 then ds else if k = 3 then rowP maskN xs ds else if k = 4 then scaleN (ps.getD 0 0) ds else rowP addN ds (mbN o i ps ds)) else []
def bwG (k i o : Int) (ps xs ds : List Int) : List Int :=
  if bwOk k i o ps xs ds then (if k = 1 ∨ k = 5 then outN ds xs else if k = 2 then ds else if k = 4 then [dotN ds xs] else []) else []
def bwB (k i o : Int) (ps xs ds : List Int) : Bool :=
  bwOk k i o ps xs ds && (if k = 1 then mbB o i ps ds || outB ds xs else if k = 2 then false else if k = 3 then false else if k = 4 then scaleB (ps.getD 0 0) ds || dotB ds xs else mbB o i ps ds || outB ds xs || flagP addB ds (mbN o i ps ds))
/-- How many products a step ahead takes. -/
def opCostN (k i o : Int) (ps : List Int) : Int := if opOkB k i o ps then (if k = 1 ∨ k = 5 then i * o else if k = 4 then i else 0) else 0
def sameOpB (k i o : Int) (ps : List Int) (k' i' o' : Int) (qs : List Int) : Bool := decide (k = k') && (decide (i = i') && (decide (o = o') && decide (ps = qs)))

/-! ### Sizes and ranges -/
theorem vecOkB_mk {xs : List Int} {n : Nat} (hl : xs.length = n) (hn : 1 ≤ n ∧ n ≤ 6) (h : ∀ j, j < n → okB (xs.getD j 0) = true) : vecOkB xs = true :=
  vecOkB_yes (by omega) (by omega) fun j hj => h j (by omega)
theorem okB_zero : okB 0 = true := by decide
theorem sumK_ok (xs ys : List Int) (k : Nat) : okB (dotK xs ys k) = true := by
  cases k with
  | zero => exact okB_zero
  | succ k => exact okB_sat _
theorem dotN_ok (xs ys : List Int) : okB (dotN xs ys) = true := by
  unfold dotN
  split
  · exact sumK_ok _ _ _
  · exact okB_zero
theorem reluN_ok (x : Int) : okB (reluN x) = true := by
  rcases (relu_cases x).2 with h | h
  · rw [h]; exact okB_zero
  · rw [h]; exact okB_sat _
theorem rowP_ok {f : Int → Int → Int} {xs ys : List Int} (hp : pairB xs ys = true) (h : ∀ j, j < xs.length → okB (f (xs.getD j 0) (ys.getD j 0)) = true) : (rowP f xs ys).length = xs.length ∧ vecOkB (rowP f xs ys) = true := by
  obtain ⟨h1, h2, _⟩ := pairB_has hp
  obtain ⟨a, b, _⟩ := vecOkB_has h1
  rw [rowP_yes f hp]
  refine ⟨rowK_length _ _ _ _, vecOkB_mk (rowK_length _ _ _ _) ⟨a, b⟩ fun j hj => ?_⟩
  rw [rowK_get _ _ _ _ _ hj]
  exact h j hj
theorem scaleN_ok {c : Int} {xs : List Int} (hc : okB c = true) (hx : vecOkB xs = true) : (scaleN c xs).length = xs.length ∧ vecOkB (scaleN c xs) = true := by
  unfold scaleN
  rw [hc]
  exact rowP_ok (by rw [pairB_self]; exact hx) fun j _ => okB_sat _
theorem mv_ok {m n : Nat} {ps xs : List Int} (hm : 1 ≤ m ∧ m ≤ 6) (hn : 1 ≤ n ∧ n ≤ 6) (hl : ps.length = n * m) (ha : ps.all okB = true) (hx : vecOkB xs = true) (hxl : xs.length = m) :
    (mvN n m ps xs).length = n ∧ vecOkB (mvN n m ps xs) = true ∧ mvN n m ps xs = mapK (fun i => dotN (rowOf m ps i) xs) n ∧ mvB n m ps xs = anyK (fun i => dotB (rowOf m ps i) xs) n := by
  have ho : mvOk n m ps xs = true := by
    unfold mvOk
    rw [matOkB_nat hn hm hl ha, hx, decide_eq_true (by rw [hxl])]
    rfl
  have e : mvN n m ps xs = mapK (fun i => dotN (rowOf m ps i) xs) n := by unfold mvN; rw [ho]; rfl
  have e' : mvB n m ps xs = anyK (fun i => dotB (rowOf m ps i) xs) n := by unfold mvB; rw [ho]; rfl
  have hlen : (mvN n m ps xs).length = n := by rw [e, mapK_length]
  exact ⟨hlen, vecOkB_mk hlen hn fun j hj => by rw [e, mapK_get _ _ _ hj]; exact dotN_ok _ _, e, e'⟩
theorem mb_ok {m n : Nat} {ps ds : List Int} (hm : 1 ≤ m ∧ m ≤ 6) (hn : 1 ≤ n ∧ n ≤ 6) (hl : ps.length = n * m) (ha : ps.all okB = true) (hd : vecOkB ds = true) (hdl : ds.length = n) :
    (mbN n m ps ds).length = m ∧ vecOkB (mbN n m ps ds) = true ∧ mbN n m ps ds = mapK (fun k => dotN (colOf n m ps k) ds) m ∧ mbB n m ps ds = anyK (fun k => dotB (colOf n m ps k) ds) m := by
  have ho : mbOk n m ps ds = true := by
    unfold mbOk
    rw [matOkB_nat hn hm hl ha, hd, decide_eq_true (by rw [hdl])]
    rfl
  have e : mbN n m ps ds = mapK (fun k => dotN (colOf n m ps k) ds) m := by unfold mbN; rw [ho]; rfl
  have e' : mbB n m ps ds = anyK (fun k => dotB (colOf n m ps k) ds) m := by unfold mbB; rw [ho]; rfl
  have hlen : (mbN n m ps ds).length = m := by rw [e, mapK_length]
  exact ⟨hlen, vecOkB_mk hlen hm fun j hj => by rw [e, mapK_get _ _ _ hj]; exact dotN_ok _ _, e, e'⟩
/-- What comes ahead has Out numbers, all in the range. -/
theorem fw_size {k i o : Int} {ps xs : List Int} (h : fwOk k i o ps xs = true) : ((fwN k i o ps xs).length : Int) = o ∧ vecOkB (fwN k i o ps xs) = true := by
  have hh := h
  unfold fwOk at hh
  simp only [Bool.and_eq_true, decide_eq_true_eq] at hh
  obtain ⟨⟨hop, hx⟩, hxl⟩ := hh
  obtain ⟨m, n, rfl, rfl, hm, hn, hio, hk, hl, ha⟩ := opOkB_has hop
  rw [opSz_in hm hn] at hl
  have hxl' : xs.length = m := by exact_mod_cast hxl
  unfold fwN
  rw [h, if_pos rfl]
  by_cases k1 : k = 1
  · subst k1
    rw [if_pos rfl]
    rw [if_pos (.inl rfl)] at hl
    have hl' : ps.length = n * m := by rw [Nat.mul_comm]; exact_mod_cast hl
    obtain ⟨a, b, _⟩ := mv_ok hm hn hl' ha hx hxl'
    exact ⟨by rw [a], b⟩
  · have hmn : m = n := by rcases hio with h | h; exact absurd h k1; exact_mod_cast h
    subst hmn
    rw [if_neg k1]
    by_cases k2 : k = 2
    · subst k2
      rw [if_pos rfl]
      simp only [Int.reduceEq, or_self, if_false, if_true] at hl
      have hp : pairB xs ps = true := by
        unfold pairB
        rw [hx, vecOkB_mk (by exact_mod_cast hl) hm fun j hj => get_of_all ha j (by omega), decide_eq_true (by omega)]
        rfl
      obtain ⟨a, b⟩ := rowP_ok (f := addN) hp fun j _ => okB_sat _
      exact ⟨by rw [a]; exact hxl, b⟩
    · rw [if_neg k2]
      by_cases k3 : k = 3
      · rw [if_pos k3]
        obtain ⟨a, b⟩ := rowP_ok (f := fun x _ => reluN x) (xs := xs) (ys := xs) (by rw [pairB_self]; exact hx) fun j _ => reluN_ok _
        exact ⟨by rw [a]; exact hxl, b⟩
      · rw [if_neg k3]
        by_cases k4 : k = 4
        · rw [if_pos k4]
          subst k4
          simp only [Int.reduceEq, or_self, if_false, if_true] at hl
          obtain ⟨a, b⟩ := scaleN_ok (c := ps.getD 0 0) (get_of_all ha 0 (by omega)) hx
          exact ⟨by rw [a]; exact hxl, b⟩
        · rw [if_neg k4]
          have k5 : k = 5 := by have := inB_has hk; omega
          subst k5
          simp only [Int.reduceEq, or_true, if_true] at hl
          have hl' : ps.length = m * m := by exact_mod_cast hl
          obtain ⟨a, b, _⟩ := mv_ok hm hm hl' ha hx hxl'
          obtain ⟨c, d⟩ := rowP_ok (f := addN) (xs := xs) (ys := mvN m m ps xs) (by unfold pairB; rw [hx, b, decide_eq_true (by omega)]; rfl) fun j _ => okB_sat _
          exact ⟨by rw [c]; exact hxl, d⟩
theorem fw_no {k i o : Int} {ps xs : List Int} (h : fwOk k i o ps xs = false) : fwN k i o ps xs = [] ∧ fwB k i o ps xs = false := by
  unfold fwN fwB
  rw [h]
  exact ⟨rfl, rfl⟩
theorem bw_no {k i o : Int} {ps xs ds : List Int} (h : bwOk k i o ps xs ds = false) : bwN k i o ps xs ds = [] ∧ bwG k i o ps xs ds = [] ∧ bwB k i o ps xs ds = false := by
  unfold bwN bwG bwB
  rw [h]
  exact ⟨rfl, rfl, rfl⟩
theorem outN_yes {ds xs : List Int} (hd : vecOkB ds = true) (hx : vecOkB xs = true) : outN ds xs = gridK (fun i k => mulN (ds.getD i 0) (xs.getD k 0)) xs.length ds.length ∧ outB ds xs = gridB (fun i k => mulB (ds.getD i 0) (xs.getD k 0)) xs.length ds.length := by
  have hb : bothB ds xs = true := by unfold bothB; rw [hd, hx]; rfl
  unfold outN outB
  rw [hb]
  exact ⟨rfl, rfl⟩
/-- What comes back has In numbers, all in the range, and as many gradients as there are parameters. -/
theorem bw_size {k i o : Int} {ps xs ds : List Int} (h : bwOk k i o ps xs ds = true) : ((bwN k i o ps xs ds).length : Int) = i ∧ vecOkB (bwN k i o ps xs ds) = true ∧ ((bwG k i o ps xs ds).length : Int) = opSz k i o := by
  have hh := h
  unfold bwOk fwOk at hh
  simp only [Bool.and_eq_true, decide_eq_true_eq] at hh
  obtain ⟨⟨⟨⟨hop, hx⟩, hxl⟩, hd⟩, hdl⟩ := hh
  obtain ⟨m, n, rfl, rfl, hm, hn, hio, hk, hl, ha⟩ := opOkB_has hop
  rw [opSz_in hm hn] at hl ⊢
  have hxl' : xs.length = m := by exact_mod_cast hxl
  have hdl' : ds.length = n := by exact_mod_cast hdl
  have hg : ((outN ds xs).length : Int) = (m : Int) * n := by
    rw [(outN_yes hd hx).1, gridK_length, hxl', hdl', Nat.mul_comm]
    push_cast
    rfl
  unfold bwN bwG
  rw [h, if_pos rfl, if_pos rfl]
  by_cases k1 : k = 1
  · subst k1
    rw [if_pos rfl, if_pos (.inl rfl), if_pos (.inl rfl)]
    rw [if_pos (.inl rfl)] at hl
    have hl' : ps.length = n * m := by rw [Nat.mul_comm]; exact_mod_cast hl
    obtain ⟨a, b, _⟩ := mb_ok hm hn hl' ha hd hdl'
    exact ⟨by rw [a], b, hg⟩
  · have hmn : m = n := by rcases hio with h | h; exact absurd h k1; exact_mod_cast h
    subst hmn
    rw [if_neg k1]
    by_cases k2 : k = 2
    · subst k2
      rw [if_pos rfl]
      simp only [Int.reduceEq, or_self, if_false, if_true] at hl ⊢
      exact ⟨hdl, hd, hdl⟩
    · rw [if_neg k2]
      by_cases k3 : k = 3
      · subst k3
        rw [if_pos rfl]
        simp only [Int.reduceEq, or_self, if_false] at hl ⊢
        obtain ⟨a, b⟩ := rowP_ok (f := maskN) (xs := xs) (ys := ds) (by unfold pairB; rw [hx, hd, decide_eq_true (by omega)]; rfl) fun j hj => by
          rcases maskN_cases (xs.getD j 0) (ds.getD j 0) with ⟨_, e⟩ | ⟨_, e⟩
          · rw [e]; exact (vecOkB_has hd).2.2 j (by omega)
          · rw [e]; exact okB_zero
        exact ⟨by rw [a]; exact hxl, b, rfl⟩
      · rw [if_neg k3]
        by_cases k4 : k = 4
        · subst k4
          rw [if_pos rfl]
          simp only [Int.reduceEq, or_self, if_false, if_true] at hl ⊢
          obtain ⟨a, b⟩ := scaleN_ok (c := ps.getD 0 0) (get_of_all ha 0 (by omega)) hd
          exact ⟨by rw [a]; exact hdl, b, rfl⟩
        · rw [if_neg k4]
          have k5 : k = 5 := by have := inB_has hk; omega
          subst k5
          simp only [Int.reduceEq, or_true, if_true] at hl ⊢
          have hl' : ps.length = m * m := by exact_mod_cast hl
          obtain ⟨a, b, _⟩ := mb_ok hm hm hl' ha hd hdl'
          obtain ⟨c, d⟩ := rowP_ok (f := addN) (xs := ds) (ys := mbN m m ps ds) (by unfold pairB; rw [hd, b, decide_eq_true (by omega)]; rfl) fun j _ => okB_sat _
          exact ⟨by rw [c]; exact hdl, d, hg⟩

/-! ### Back with nought -/
def noughts (n : Nat) : List Int := List.replicate n 0
theorem noughts_length (n : Nat) : (noughts n).length = n := by simp [noughts]
/-- All are nought. -/
def AllZ (xs : List Int) : Prop := ∀ j, xs.getD j 0 = 0
end Go.Proofs.YtpnifgpmleaohaaGreatDoor

end

/-! YtpnifgpmleaohaaGreatDoorZModM -/
section

namespace Go.Proofs.YtpnifgpmleaohaaGreatDoor
open Go.RowKit
set_option linter.unusedVariables false

def opAt (m : List dOp) (j : Nat) : dOp := m.getD j (0, 0, 0, [])
theorem opAt_get {m : List dOp} {j : Nat} {x : dOp} (h : m[j]? = some x) : opAt m j = x := by
  unfold opAt
  rw [List.getD_eq_getElem?_getD, h]
  rfl
/-- Is an operation right? -/
def dOpOk (x : dOp) : Bool := opOkB x.1 x.2.1 x.2.2.1 x.2.2.2
/-- Is the one at a place right, and fits it behind the one ahead? -/
def okAt (m : List dOp) (j : Nat) : Bool := dOpOk (opAt m j) && (decide (j = 0) || decide ((opAt m j).2.1 = (opAt m (j - 1)).2.2.1))
def modelOkB (m : List dOp) : Bool := (List.range m.length).all (okAt m) && inB 1 8 (m.length : Int)
theorem range_all {p : Nat → Bool} {n : Nat} (h : ∀ j, j < n → p j = true) : (List.range n).all p = true := List.all_eq_true.2 fun j hj => h j (List.mem_range.1 hj)
theorem range_some {p : Nat → Bool} {n k : Nat} (hk : k < n) (h : p k = false) : (List.range n).all p = false := List.all_eq_false.2 ⟨k, List.mem_range.2 hk, by rw [h]; decide⟩
theorem modelOk_no {m : List dOp} {k : Nat} (hk : k < m.length) (h : okAt m k = false) : modelOkB m = false := by
  unfold modelOkB
  rw [range_some hk h]
  rfl
theorem modelOk_all {m : List dOp} (h : ∀ j, j < m.length → okAt m j = true) : modelOkB m = inB 1 8 (m.length : Int) := by
  unfold modelOkB
  rw [range_all h]
  rfl
theorem okAt_bad {m : List dOp} {k : Nat} {x : dOp} (hx : m[k]? = some x) (h : dOpOk x = false) : okAt m k = false := by
  unfold okAt
  rw [opAt_get hx, h]
  rfl
theorem okAt_zero {m : List dOp} {x : dOp} (hx : m[0]? = some x) (h : dOpOk x = true) : okAt m 0 = true := by
  unfold okAt
  rw [opAt_get hx, h]
  rfl
theorem okAt_next {m : List dOp} {k j : Nat} {x y : dOp} (hx : m[k]? = some x) (hy : m[j]? = some y) (hk : k = j + 1) (h : dOpOk x = true) : okAt m k = decide (x.2.1 = y.2.2.1) := by
  subst hk
  unfold okAt
  rw [opAt_get hx, Nat.add_sub_cancel, opAt_get hy, h]
  simp
theorem modelOk_has {m : List dOp} (h : modelOkB m = true) : (∀ j, j < m.length → okAt m j = true) ∧ 1 ≤ m.length ∧ m.length ≤ 8 := by
  unfold modelOkB at h
  simp only [Bool.and_eq_true, List.all_eq_true, List.mem_range] at h
  have := inB_has h.2
  exact ⟨h.1, by omega, by omega⟩
def inOfN (m : List dOp) : Int := if modelOkB m then (opAt m 0).2.1 else 0
def outOfN (m : List dOp) : Int := if modelOkB m then (opAt m (m.length - 1)).2.2.1 else 0
def wordsN (m : List dOp) : Int := if modelOkB m then (Shape.sum (fun (x : dOp) => x.2.2.2.length) m : Nat) else 0
/-- Does a pair fit? -/
def pairOkB (i o : Int) (p : dPair) : Bool := vecOkB p.1 && vecOkB p.2 && decide ((p.1.length : Int) = i) && decide ((p.2.length : Int) = o)
def batchOkB (m : List dOp) (b : List dPair) : Bool := modelOkB m && inB 1 5 (b.length : Int) && b.all (pairOkB (inOfN m) (outOfN m))
def sameRowsB (a b : List dRow) : Bool := decide (a = b)
end Go.Proofs.YtpnifgpmleaohaaGreatDoor

end
