import Derived.Test.YtkflinobmagiiaaJoin4
import Derived.Test.YtkflinobmagiiaaJoin5
import Derived.Test.YtkflinobmagiiaaProg
import Derived.WalkKit
import Derived.LaidEql
import Derived.Stop.Asserts
import Derived.RowKitTokens
import Derived.Below
import Derived.Lib.Hide
import Derived.WalkSpells
import Derived.WalkLawsBesides
/-! YtkflinobmagiiaaDrawE -/
section

namespace Go.Proofs.Ytkflinobmagiiaa
open Go.RowKit
set_option linter.unusedVariables false

/-- Block C holds a cursor over a code that lies below B. -/
def Cu (B : Nat) (w : World) (C : Nat) : Prop := ∃ a cap bs s, CurAt B w C a cap bs s
/-- The cursor's block alone was turned; what is new is new. -/
def Turned (B : Nat) (w w' : World) (C : Nat) : Prop := Cu B w' C ∧ w.grownBy w' (some C)
theorem Drawn.turned {B : Nat} {w w' : World} {C : Nat} {a : Option Addr} {cap : Nat} {bs : List UInt8} {s : St} (h : Drawn B w w' C a cap bs s) : Turned B w w' C := ⟨⟨a, cap, bs, s, h.at_⟩, h.grown⟩
theorem Cu.lt {B : Nat} {w : World} {C : Nat} (h : Cu B w C) : C < w.heap.size := by
  obtain ⟨a, cap, bs, s, h⟩ := h
  exact (Array.getElem?_eq_some_iff.1 h.cur).1
theorem Cu.up {B : Nat} {w : World} {C : Nat} (h : Cu B w C) : B ≤ C := by
  obtain ⟨a, cap, bs, s, h⟩ := h
  exact CurAt.up h
theorem Cu.grown {B : Nat} {w w' : World} {C : Nat} {row : Option Nat} (h : Cu B w C) (hg : w.grownBy w' row) (hr : ∀ k, row = some k → B ≤ k ∧ k ≠ C) : Cu B w' C := by
  obtain ⟨a, cap, bs, s, h⟩ := h
  exact ⟨a, cap, bs, s, h.grown hg hr⟩
theorem Cu.alloc {B : Nat} {w : World} {C : Nat} (h : Cu B w C) (o : Obj) : Cu B (w.alloc o) C := h.grown (World.grownBy_alloc w o none) (fun k hk => by cases hk)
theorem grown_of_below {w w' : World} (hb : Below w.heap.size w w') (row : Option Nat) : w.grownBy w' row := ⟨hb.os, hb.tape, hb.output, hb.size, fun b hb' _ => hb.block b hb'⟩
theorem Cu.below {B : Nat} {w w' : World} {C : Nat} (h : Cu B w C) (hb : Below w.heap.size w w') : Cu B w' C := h.grown (grown_of_below hb none) (fun k hk => by cases hk)
theorem Turned.refl {B : Nat} {w : World} {C : Nat} (h : Cu B w C) : Turned B w w C := ⟨h, World.grownBy.refl _ _⟩
theorem Turned.trans {B : Nat} {w w1 w2 : World} {C : Nat} (h : Turned B w w1 C) (k : Turned B w1 w2 C) : Turned B w w2 C := ⟨k.1, grownBy_trans h.2 k.2⟩
/-- Behind a call that makes memory of its own. -/
theorem Turned.then {B : Nat} {w w1 w2 : World} {C : Nat} (h : Turned B w w1 C) (k : Below w1.heap.size w1 w2) : Turned B w w2 C := ⟨h.1.below k, grownBy_trans h.2 (grown_of_below k _)⟩
theorem Turned.alloc {B : Nat} {w w1 : World} {C : Nat} (h : Turned B w w1 C) (o : Obj) : Turned B w (w1.alloc o) C := h.then ((Below.refl _ _).alloc (Nat.le_refl _) o)
theorem Turned.drewN {B : Nat} {w w1 : World} {C : Nat} (h : Turned B w w1 C) (n : Nat) : Turned B w (w1.drewN n) C := h.then ⟨rfl, rfl, rfl, Nat.le_refl _, fun _ _ => rfl⟩
theorem Turned.size {B : Nat} {w w1 : World} {C : Nat} (h : Turned B w w1 C) : w.heap.size ≤ w1.heap.size := h.2.size
theorem Turned.cu {B : Nat} {w w1 : World} {C : Nat} (h : Turned B w w1 C) : Cu B w1 C := h.1
theorem Turned.below {B B' : Nat} {w w' : World} {C : Nat} (h : Turned B w w' C) (hB : B' ≤ w.heap.size) (hC : B' ≤ C) : Below B' w w' :=
  (Below.refl B' w).grown h.2 hB (fun k hk => by cases hk; exact hC)

/-- What a drawing call leaves. -/
def DrewI (P : Int → Prop) (B : Nat) (w : World) (C : Nat) (e : Ending) (w' : World) : Prop := ∃ x, e = .returned (.int .i64 x) ∧ P x ∧ Turned B w w' C
def DrewS (P : ByteArray → Prop) (B : Nat) (w : World) (C : Nat) (e : Ending) (w' : World) : Prop := ∃ x, e = .returned (.string x) ∧ P x ∧ Turned B w w' C
def DrewB (B : Nat) (w : World) (C : Nat) (e : Ending) (w' : World) : Prop := ∃ x, e = .returned (.bool x) ∧ Turned B w w' C

theorem l1New_e (w : World) (a : Option Addr) (cap : Nat) (bs : List UInt8) (hc : CodeIn w.heap.size w a bs) :
    Calls Try.prog 32 #[.slice a bs.length cap] w fun e w' => e = .returned (.pointer (some ⟨w.heap.size, 0, none⟩)) ∧ Cu w.heap.size w' w.heap.size ∧ w.grownBy w' none :=
  (l1New_any w.heap.size w a cap bs (Nat.le_refl _) hc.room hc.code).mono fun e w' ⟨he, h, hg⟩ => ⟨he, ⟨_, _, _, _, h⟩, hg⟩
/-- At an elder bound: a cursor beside another. -/
theorem l1New_eB (B : Nat) (w : World) (a : Option Addr) (cap : Nat) (bs : List UInt8) (hB : B ≤ w.heap.size) (hc : CodeIn B w a bs) :
    Calls Try.prog 32 #[.slice a bs.length cap] w fun e w' => e = .returned (.pointer (some ⟨w.heap.size, 0, none⟩)) ∧ Cu B w' w.heap.size ∧ w.grownBy w' none :=
  (l1New_any B w a cap bs hB hc.room hc.code).mono fun e w' ⟨he, h, hg⟩ => ⟨he, ⟨_, _, _, _, h⟩, hg⟩
theorem l1Byte_e (B : Nat) (w : World) (C : Nat) (hc : Cu B w C) :
    Calls Try.prog 88 #[.pointer (some ⟨C, 0, none⟩)] w (DrewI (fun x => 0 ≤ x ∧ x ≤ 255) B w C) := by
  obtain ⟨a, cap, bs, s, hc⟩ := hc
  rcases hx : byteF bs s with ⟨x, s'⟩
  exact (l1Byte_at B w C a cap bs s s' x hx hc).mono fun e w' ⟨he, hd⟩ => ⟨x, he, byteF_at hx, hd.turned⟩
theorem l1Below_e (B : Nat) (w : World) (C : Nat) (n : Int) (hn : 0 < n) (hc : Cu B w C) :
    Calls Try.prog 60 #[.pointer (some ⟨C, 0, none⟩), .int .i64 n] w (DrewI (fun x => 0 ≤ x ∧ x < n) B w C) := by
  obtain ⟨a, cap, bs, s, hc⟩ := hc
  rcases hx : belowF bs s n with ⟨x, s'⟩
  exact (l1Below_at B w C a cap bs s s' n x hx hc).mono fun e w' ⟨he, hd⟩ => ⟨x, he, belowF_range hx hn, hd.turned⟩
theorem l1Once_e (B : Nat) (w : World) (C : Nat) (n : Int) (hc : Cu B w C) :
    Calls Try.prog 87 #[.pointer (some ⟨C, 0, none⟩), .int .i64 n] w (DrewB B w C) := by
  obtain ⟨a, cap, bs, s, hc⟩ := hc
  rcases hx : belowF bs s n with ⟨x, s'⟩
  exact (l1Once_at B w C a cap bs s s' n x hx hc).mono fun e w' ⟨he, hd⟩ => ⟨x == 0, he, hd.turned⟩
theorem l1PickInt_e (B : Nat) (w : World) (C : Nat) (L m : Nat) (zs : List Int) (P : Int → Prop) (hm : zs.length = m) (hm0 : 0 < m) (hm1 : m ≤ 1000) (hP : ∀ x, x ∈ zs → P x)
    (hc : Cu B w C) (hLC : L ≠ C) (hz : ∀ j, j < m → w.cell? ⟨L, j, none⟩ = some (.int .i64 (zs.getD j 0))) :
    Calls Try.prog 62 #[.pointer (some ⟨C, 0, none⟩), .slice (some ⟨L, 0, none⟩) m m] w (DrewI P B w C) := by
  obtain ⟨a, cap, bs, s, hc⟩ := hc
  rcases hx : belowF bs s m with ⟨x, s'⟩
  obtain ⟨h0, h1⟩ := belowF_range hx (by omega)
  refine (l1PickInt_at B w C a cap bs s s' x L m zs hm hm0 hm1 hx hc hLC hz).mono fun e w' ⟨he, hd⟩ => ⟨_, he, hP _ ?_, hd.turned⟩
  have hl : x.toNat < zs.length := by omega
  simp [List.getD, hl]
/-- A list of numbers that the call has made: what its cells hold. -/
theorem ints_cells (w : World) (zs : List Int) (t : TypeId) (j : Nat) (hj : j < zs.length) : (w.alloc (.cells (zs.map (Value.int .i64)).toArray t)).cell? ⟨w.heap.size, j, none⟩ = some (.int .i64 (zs.getD j 0)) := by
  rw [cell_of_row _ _ _ _ _ _ (heap_alloc_new w _)]
  simp [List.getD, hj]
theorem strs_cells (w : World) (zs : List ByteArray) (t : TypeId) (j : Nat) (hj : j < zs.length) : (w.alloc (.cells (zs.map Value.string).toArray t)).cell? ⟨w.heap.size, j, none⟩ = some (.string (zs.getD j ByteArray.empty)) := by
  rw [cell_of_row _ _ _ _ _ _ (heap_alloc_new w _)]
  simp [List.getD, hj]
theorem spoil_size {bs : List UInt8} {s s' : St} {t r : ByteArray} (h : spoilF bs s t = (r, s')) : r.size ≤ 2 * t.size + 4 := by
  have e : r = (spoilF bs s t).1 := by rw [h]
  have hx := fun i j => extract_size t i j
  rw [e, spoilF]
  split
  · rcases hn : textF bs s 3 with ⟨l, s1⟩
    have := textF_length hn (by omega)
    show l.length ≤ _
    omega
  · split
    · simp only [ByteArray.size_append]
      have h1 := hx 0 (belowF bs s t.size).1.toNat
      have h2 := hx ((belowF bs s t.size).1.toNat + 1) t.size
      omega
    · split
      · simp only [ByteArray.size_append]
        have h1 := hx 0 (belowF bs s t.size).1.toNat
        have h2 := hx (belowF bs s t.size).1.toNat t.size
        have h3 : (⟨#[UInt8.ofNat (byteF bs (belowF bs (belowF bs s t.size).2 4).2).1.toNat]⟩ : ByteArray).size = 1 := rfl
        omega
      · split
        · have h1 := hx 0 (belowF bs s t.size).1.toNat
          simp only
          omega
        · simp only [ByteArray.size_append]
          have h1 := hx 0 (belowF bs s t.size).1.toNat
          have h2 := hx ((belowF bs s t.size).1.toNat + 1) t.size
          have h3 : ∀ c : UInt8, (⟨#[c]⟩ : ByteArray).size = 1 := fun c => rfl
          rw [h3]
          omega
end Go.Proofs.Ytkflinobmagiiaa

end

/-! YtkflinobmagiiaaSat -/
section

namespace Go.Proofs.Ytkflinobmagiiaa

/-- A number taken into the range, and whether it was out of it. -/
def sat (x : Int) : Int := if 2147483647 < x then 2147483647 else if x < -2147483647 then -2147483647 else x
def satB (x : Int) : Bool := decide (2147483647 < x ∨ x < -2147483647)
theorem sat_hi {x : Int} (h : 2147483647 < x) : sat x = 2147483647 ∧ satB x = true := by simp [sat, satB, h]
theorem sat_lo {x : Int} (h : x < -2147483647) : sat x = -2147483647 ∧ satB x = true := by
  have h' : ¬ 2147483647 < x := by omega
  simp [sat, satB, h, h']
theorem sat_mid {x : Int} (h0 : -2147483647 ≤ x) (h1 : x ≤ 2147483647) : sat x = x ∧ satB x = false := by
  have h' : ¬ 2147483647 < x := by omega
  have h'' : ¬ x < -2147483647 := by omega
  simp [sat, satB, h', h'']
theorem sat_range (x : Int) : -2147483647 ≤ sat x ∧ sat x ≤ 2147483647 := by
  unfold sat
  split
  · omega
  · split <;> omega
theorem satB_false {x : Int} (h : satB x = false) : sat x = x := by
  simp only [satB, decide_eq_false_iff_not] at h
  exact (sat_mid (by omega) (by omega)).1
theorem satB_true {x : Int} (h : satB x = true) : sat x = 2147483647 ∨ sat x = -2147483647 := by
  simp only [satB, decide_eq_true_eq] at h
  rcases h with h | h
  · exact Or.inl (sat_hi h).1
  · exact Or.inr (sat_lo h).1
theorem mul_range {a b : Int} (ha0 : -2147483647 ≤ a) (ha1 : a ≤ 2147483647) (hb0 : -2147483647 ≤ b) (hb1 : b ≤ 2147483647) : -4611686014132420609 ≤ a * b ∧ a * b ≤ 4611686014132420609 := by
  have h : (a * b).natAbs ≤ 2147483647 * 2147483647 := by
    rw [Int.natAbs_mul]
    exact Nat.mul_le_mul (by omega) (by omega)
  omega
/-- Is it from lo to hi? -/
def inB (lo hi x : Int) : Bool := decide (lo ≤ x ∧ x ≤ hi)
theorem inB_yes {lo hi x : Int} (h0 : lo ≤ x) (h1 : x ≤ hi) : inB lo hi x = true := decide_eq_true ⟨h0, h1⟩
theorem inB_no {lo hi x : Int} (h : x < lo ∨ hi < x) : inB lo hi x = false := decide_eq_false (by omega)
theorem tdiv_lo {x : Int} (h : x < 0) : x.tdiv 65536 = -((-x) / 65536) := by
  have e : x = -(-x) := by omega
  have : (-(-x)).tdiv 65536 = -((-x) / 65536) := by rw [Int.neg_tdiv, Int.tdiv_eq_ediv_of_nonneg (by omega)]
  rwa [← e] at this
theorem tmod_lo {x : Int} (h : x < 0) : x.tmod 65536 = -((-x) % 65536) := by
  have e : x = -(-x) := by omega
  have : (-(-x)).tmod 65536 = -((-x) % 65536) := by rw [Int.neg_tmod, Int.tmod_eq_emod_of_nonneg (by omega)]
  rwa [← e] at this
theorem floor_eq {x : Int} (hx : x < 0) (h : x.tmod 65536 = 0) : x.tdiv 65536 = x / 65536 := by
  rw [tmod_lo hx] at h
  rw [tdiv_lo hx]
  omega
theorem floor_ne {x : Int} (hx : x < 0) (h : ¬ x.tmod 65536 = 0) : x.tdiv 65536 - 1 = x / 65536 := by
  rw [tmod_lo hx] at h
  rw [tdiv_lo hx]
  omega
/-- The four operations. -/
def addN (a b : Int) : Int := sat (sat a + sat b)
def addB (a b : Int) : Bool := satB (sat a + sat b)
def subN (a b : Int) : Int := sat (sat a - sat b)
def subB (a b : Int) : Bool := satB (sat a - sat b)
def mulN (a b : Int) : Int := sat (sat a * sat b / 65536)
def mulB (a b : Int) : Bool := satB (sat a * sat b / 65536)
end Go.Proofs.Ytkflinobmagiiaa

end

/-! YtkflinobmagiiaaAs -/
section

namespace Go.Proofs.Ytkflinobmagiiaa
open Go.RowKit Go.Extern.Stop Go.Stop Go.Extern
set_option linter.unusedVariables false
set_option linter.unusedSimpArgs false

theorem as_kind0 (w : World) : ((ReflectliteType.abiMethod fun t => (fun a : Nat => Value.int IntKind.u8 (a : Int)) <$> Rtype.kind t) #[.pointer (some ⟨0, 145, none⟩)]).run Try.prog w = .ok (.int .u8 25) w := by kernel_rfl
theorem as_rlm (z : Sem Value) (f : TypeId → Addr → Nat → Nat → Sem Value) (v : Value) :
    ReflectliteValue.method z f #[v] = (do match ← ReflectliteValue.parts v with | none => z | some (t, a, fl) => f t a fl (fl % 32)) := rfl
theorem as_valueOf0 (n : Int) (w : World) : (ReflectliteValue.unpack (.iface 145 (.agg #[.int .i64 n]))).run Try.prog w
    = .ok (.agg #[.pointer (some ⟨0, 145, none⟩), .pointer (some ⟨w.heap.size, 0, none⟩), .int .u64 153]) (w.alloc (.cells #[.int .i64 n] 145)) := by kernel_rfl
theorem as_mk0 (p : Addr) (w : World) : (ReflectliteValue.mk 145 p ReflectliteValue.flagAddr).run Try.prog w = .ok (.agg #[.pointer (some ⟨0, 145, none⟩), .pointer (some p), .int .u64 409]) w := by kernel_rfl
theorem as_rls (v x : Value) : ReflectliteValue.set #[v, x] = (do
    let (some (dst, a, fl), some (src, b, _)) := (← ReflectliteValue.parts v, ← ReflectliteValue.parts x)
      | unsupported (.noEntry "extern/(internal/reflectlite.Value).Set.zeroValue")
    if fl / ReflectliteValue.flagAddr % 2 == 0 then unsupported (.noEntry "extern/(internal/reflectlite.Value).Set.unaddressable")
    let val ← loadVar src b
    if ← Rtype.directlyAssignable dst src then storeVar dst a val
    else if ← Rtype.implements dst src then
      if (← Rtype.kind src) == 20 then
        match val with
        | .nilIface => unsupported (.noEntry "extern/reflectlite: a nil value of one interface type handed on as a value of another")
        | _ => storeVar dst a val
      else storeVar dst a (.iface src val)
    else panicString ("reflectlite.Set: value of type " ++ (← Rtype.spelt src) ++ " is not assignable to type " ++ (← Rtype.spelt dst))
    pure (.tuple #[])) := rfl
theorem as_parts0a (a : Addr) (w : World) : (ReflectliteValue.parts (.agg #[.pointer (some ⟨0, 145, none⟩), .pointer (some a), .int .u64 409])).run Try.prog w = .ok (some (145, a, 409)) w := by kernel_rfl
theorem as_parts0 (a : Addr) (w : World) : (ReflectliteValue.parts (.agg #[.pointer (some ⟨0, 145, none⟩), .pointer (some a), .int .u64 153])).run Try.prog w = .ok (some (145, a, 153)) w := by kernel_rfl
theorem as_direct (w : World) : (Rtype.directlyAssignable 145 145).run Try.prog w = .ok true w := by kernel_rfl
theorem as_size (w : World) : (sizeOf 145).run Try.prog w = .ok 1 w := by kernel_rfl
theorem as_agg (w : World) : (isAgg 145).run Try.prog w = .ok true w := by kernel_rfl
theorem as_load0 (b : Addr) (n : Int) (W : World) (hb : W.cell? b = some (.int .i64 n)) : (loadVar 145 b).run Try.prog W = .ok (.agg #[.int .i64 n]) W := by
  have h0 : W.cell? (b.add 0) = some (.int .i64 n) := by simpa [Addr.add] using hb
  simp [loadVar, as_agg, as_size, Result.andThen, loadCells, loadCellsFrom, h0]
theorem as_set (ta b : Addr) (n : Int) (old : Value) (W : World) (hb : W.cell? b = some (.int .i64 n)) (ht : W.cell? ta = some old) (hf : W.frozen? ta = false) :
    (ReflectliteValue.set #[.agg #[.pointer (some ⟨0, 145, none⟩), .pointer (some ta), .int .u64 409], .agg #[.pointer (some ⟨0, 145, none⟩), .pointer (some b), .int .u64 153]]).run Try.prog W
      = .ok (.tuple #[]) (W.setCell ta (.int .i64 n)) := by
  rw [as_rls]
  simp only [Sem.run_bind, as_parts0a, as_parts0, Result.andThen]
  simp [ReflectliteValue.flagAddr, as_load0 b n W hb, Result.andThen, as_direct, storeVar, Value.cells, as_size, storeCells, Addr.add]
  rw [run_store Try.prog W ta _ _ (by rfl)]
  simp [ht, hf]

end Go.Proofs.Ytkflinobmagiiaa

end
