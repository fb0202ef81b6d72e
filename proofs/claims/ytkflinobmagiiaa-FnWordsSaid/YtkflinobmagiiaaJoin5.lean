import Derived.Test.YtkflinobmagiiaaProg
import Derived.Test.YtkflinobmagiiaaJoin1
import Derived.Test.YtkflinobmagiiaaJoin4
import Derived.OpenShut
import Derived.Lib.Hide
import Derived.WalkSpells
import Derived.WalkLawsBesides
/-! YtkflinobmagiiaaFixM -/
section

namespace Go.Proofs.Ytkflinobmagiiaa

/-- k bytes of n, the highest first. -/
def fixL (n : Nat) : Nat → List UInt8
  | 0 => []
  | k + 1 => fixL (n / 256) k ++ [UInt8.ofNat (n % 256)]
theorem fixL_length (n k : Nat) : (fixL n k).length = k := by
  induction k generalizing n with
  | zero => rfl
  | succ k ih => simp [fixL, ih]
theorem fixL_cons (n k : Nat) : fixL n (k + 1) = UInt8.ofNat (n / 256 ^ k % 256) :: fixL n k := by
  induction k generalizing n with
  | zero => simp [fixL]
  | succ k ih =>
    rw [fixL, ih (n / 256)]
    simp only [fixL, List.cons_append]
    rw [Nat.div_div_eq_div_mul, Nat.pow_succ, Nat.mul_comm 256]
theorem fixL_push (n k j : Nat) (h : n / 256 ^ (k + 1) = n / 256 ^ k / 256) : fixL (n / 256 ^ k) (j + 1) = fixL (n / 256 ^ (k + 1)) j ++ [UInt8.ofNat (n / 256 ^ k % 256)] := by
  rw [fixL, h]
theorem div_pow_succ (n k : Nat) : n / 256 ^ (k + 1) = n / 256 ^ k / 256 := by
  rw [Nat.div_div_eq_div_mul, Nat.pow_succ]
/-- What Fixed tells of a number that is not below nought, at a right width. -/
def fixW (N W : Nat) : ByteArray := if N / 256 ^ W = 0 then ⟨(fixL N W).toArray⟩ else ByteArray.empty
theorem fixW_yes {N W : Nat} (h : N / 256 ^ W = 0) : fixW N W = ⟨(fixL N W).toArray⟩ := if_pos h
theorem fixW_no {N W : Nat} (h : N / 256 ^ W ≠ 0) : fixW N W = ByteArray.empty := if_neg h
theorem pow8 (k : Nat) : 2 ^ (8 * k) = 256 ^ k := by rw [Nat.pow_mul]
theorem shr_pow (N k : Nat) : (N : Int) / 2 ^ (8 * k) = ((N / 256 ^ k : Nat) : Int) := by
  have h : (2 : Int) ^ (8 * k) = ((256 ^ k : Nat) : Int) := by rw [← pow8]; simp
  rw [h]; simp
end Go.Proofs.Ytkflinobmagiiaa

end

/-! YtkflinobmagiiaaFixed -/
section

namespace Go.Proofs.Ytkflinobmagiiaa
open Go.RowKit

theorem l1In_yes (x lo hi : Int) (w : World) (h1 : lo ≤ x) (h2 : x ≤ hi) :
    Calls Try.prog 41 #[.int .i64 x, .int .i64 lo, .int .i64 hi] w fun e w' => e = .returned (.bool true) ∧ w = w' := by
  go_enter Try.func41, Try.ntmps41
  go_wp2
  go_ret
  exact ⟨rfl, rfl⟩
theorem l1In_no (x lo hi : Int) (w : World) (h : x < lo ∨ hi < x) :
    Calls Try.prog 41 #[.int .i64 x, .int .i64 lo, .int .i64 hi] w fun e w' => e = .returned (.bool false) ∧ w = w' := by
  by_cases h1 : x < lo
  · go_enter Try.func41, Try.ntmps41
    go_wp2
    go_ret
    exact ⟨rfl, rfl⟩
  · have h2 : hi < x := by omega
    have h3 : decide (x ≤ hi) = false := by simpa using h2
    clear h
    go_enter Try.func41, Try.ntmps41
    go_wp2
    go_ret
    exact ⟨rfl, rfl⟩

/-- What both tell, at any two integers. -/
def fixI (n width : Int) : ByteArray := if 1 ≤ width ∧ width ≤ 7 ∧ 0 ≤ n then fixW n.toNat width.toNat else ByteArray.empty
theorem i64_le {a : Int} (h : (Lit.int .i64 a).wf = true) : a ≤ 9223372036854775807 := by
  have := (bounds_i64 h).2
  omega
end Go.Proofs.Ytkflinobmagiiaa

end

/-! YtkflinobmagiiaaVar -/
section

namespace Go.Proofs.Ytkflinobmagiiaa
open Go.RowKit
set_option linter.unusedVariables false

/-- What Var tells. -/
def varI (n : Int) : ByteArray := if 0 ≤ n ∧ n ≤ 562949953421311 then ⟨(varL n.toNat).toArray⟩ else ByteArray.empty
end Go.Proofs.Ytkflinobmagiiaa

end

/-! YtkflinobmagiiaaDraw1 -/
section

namespace Go.Proofs.Ytkflinobmagiiaa
open Go.RowKit
set_option linter.unusedVariables false

/-- The code, as the walks take it. -/
structure CodeIn (B : Nat) (w : World) (a : Option Addr) (bs : List UInt8) : Prop where
  room : bs.length ≤ 1048576
  code : ∀ j (hj : j < bs.length), ∃ b o, a = some ⟨b, o, none⟩ ∧ b < B ∧ w.cell? ⟨b, o + j, none⟩ = some (.int .u8 (bs[j].toNat : Int))
theorem CodeIn.below {B : Nat} {w w' : World} {a : Option Addr} {bs : List UInt8} (h : CodeIn B w a bs) (hb : Below B w w') : CodeIn B w' a bs :=
  ⟨h.room, fun j hj => by
    obtain ⟨b, o, e1, e2, e3⟩ := h.code j hj
    exact ⟨b, o, e1, e2, (hb.cell (p := ⟨b, o + j, none⟩) e2).trans e3⟩⟩

/-- Behind l1New and what is drawn by its cursor nothing that was there has turned. -/
theorem below_new {B : Nat} {w w1 w2 : World} {a : Option Addr} {cap : Nat} {bs : List UInt8} {s : St} (hB : B ≤ w.heap.size) (hg : w.grownBy w1 none) (hd : Drawn B w1 w2 w.heap.size a cap bs s) : Below w.heap.size w w2 :=
  ((Below.refl _ _).grown hg (Nat.le_refl _) (fun k h => by cases h)).grown hd.grown hg.size (fun k h => by cases h; exact Nat.le_refl _)

def drawVarF (bs : List UInt8) : Int := (numF bs (newSt bs)).1
def drawHexF (bs : List UInt8) : List UInt8 := (textF bs (newSt bs) 40).1
theorem drawHexF_length (bs : List UInt8) : (drawHexF bs).length ≤ 40 := by
  rcases hn : textF bs (newSt bs) 40 with ⟨l, s1⟩
  have := textF_length hn (by omega)
  rw [drawHexF, hn]
  simp only
  omega
/-- The text whose beginning may be a Var. -/
def readVarS (bs : List UInt8) : ByteArray × St :=
  (varI (numF bs (newSt bs)).1 ++ (⟨(textF bs (numF bs (newSt bs)).2 4).1.toArray⟩ : ByteArray), (textF bs (numF bs (newSt bs)).2 4).2)
def drawReadVarF (bs : List UInt8) : ByteArray :=
  if (belowF bs (readVarS bs).2 4).1 = 0 then (spoilF bs (belowF bs (readVarS bs).2 4).2 (readVarS bs).1).1 else (readVarS bs).1
theorem varI_size (n : Int) : (varI n).size ≤ 7 := by
  unfold varI
  split
  · rename_i h
    have := varL_len7 (n := n.toNat) (by omega)
    exact this
  · decide
theorem extract_size (t : ByteArray) (i j : Nat) : (t.extract i j).size ≤ t.size := by
  rw [Lib.size_eq, Lib.extract_data, Lib.size_eq]
  simp
  omega
theorem spoilF_size {bs : List UInt8} {s s' : St} {t r : ByteArray} (h : spoilF bs s t = (r, s')) (ht : t.size ≤ 11) : r.size ≤ 100 := by
  have e : r = (spoilF bs s t).1 := by rw [h]
  have hx := fun i j => extract_size t i j
  rw [e, spoilF]
  split
  · rcases hn : textF bs s 3 with ⟨l, s1⟩
    have := textF_length hn (by omega)
    show l.length ≤ 100
    omega
  · split
    · simp only [ByteArray.size_append]
      have h1 := hx 0 (belowF bs s t.size).1.toNat
      have h2 := hx ((belowF bs s t.size).1.toNat + 1) t.size
      omega
    · split
      · simp only [ByteArray.size_append]
        have h1 := hx 0 (belowF bs s t.size).1.toNat
        have h2 := hx (belowF bs s t.size).1.toNat t.size
        have h3 : (⟨#[UInt8.ofNat (byteF bs (belowF bs (belowF bs s t.size).2 4).2).1.toNat]⟩ : ByteArray).size = 1 := rfl
        omega
      · split
        · have h1 := hx 0 (belowF bs s t.size).1.toNat
          simp only
          omega
        · simp only [ByteArray.size_append]
          have h1 := hx 0 (belowF bs s t.size).1.toNat
          have h2 := hx ((belowF bs s t.size).1.toNat + 1) t.size
          have h3 : ∀ c : UInt8, (⟨#[c]⟩ : ByteArray).size = 1 := fun c => rfl
          rw [h3]
          omega
theorem readVarS_size (bs : List UInt8) : (readVarS bs).1.size ≤ 11 := by
  rcases hn : textF bs (numF bs (newSt bs)).2 4 with ⟨l, s1⟩
  have h1 := textF_length hn (by omega)
  have h2 := varI_size (numF bs (newSt bs)).1
  have h3 : (⟨l.toArray⟩ : ByteArray).size = l.length := rfl
  rw [readVarS, hn]
  simp only [ByteArray.size_append, h3]
  omega
theorem drawReadVarF_size (bs : List UInt8) : (drawReadVarF bs).size ≤ 100 := by
  have h1 := readVarS_size bs
  unfold drawReadVarF
  split
  · rcases hs : spoilF bs (belowF bs (readVarS bs).2 4).2 (readVarS bs).1 with ⟨r, s1⟩
    exact spoilF_size hs h1
  · omega

end Go.Proofs.Ytkflinobmagiiaa

end
