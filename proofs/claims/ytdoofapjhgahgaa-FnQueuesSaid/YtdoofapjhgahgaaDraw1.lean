/-
  What chapter 1's statements draw.
-/
import Derived.Test.YtdoofapjhgahgaaDrawSpoil
import Derived.Test.YtdoofapjhgahgaaVar
namespace Go.Proofs.Ytdoofapjhgahgaa
open Go.RowKit
set_option linter.unusedVariables false

/-- The code, as the walks take it. -/
structure CodeIn (B : Nat) (w : World) (a : Option Addr) (bs : List UInt8) : Prop where
  room : bs.length ≤ 1048576
  code : ∀ j (hj : j < bs.length), ∃ b o, a = some ⟨b, o, none⟩ ∧ b < B ∧ w.cell? ⟨b, o + j, none⟩ = some (.int .u8 (bs[j].toNat : Int))
theorem CodeIn.below {B : Nat} {w w' : World} {a : Option Addr} {bs : List UInt8} (h : CodeIn B w a bs) (hb : Below B w w') : CodeIn B w' a bs :=
  ⟨h.room, fun j hj => by
    obtain ⟨b, o, e1, e2, e3⟩ := h.code j hj
    exact ⟨b, o, e1, e2, (hb.cell (p := ⟨b, o + j, none⟩) e2).trans e3⟩⟩

/-- Behind l1New and what is drawn by its cursor nothing that was there has turned. -/
theorem below_new {B : Nat} {w w1 w2 : World} {a : Option Addr} {cap : Nat} {bs : List UInt8} {s : St} (hB : B ≤ w.heap.size) (hg : w.grownBy w1 none) (hd : Drawn B w1 w2 w.heap.size a cap bs s) : Below w.heap.size w w2 :=
  ((Below.refl _ _).grown hg (Nat.le_refl _) (fun k h => by cases h)).grown hd.grown hg.size (fun k h => by cases h; exact Nat.le_refl _)

def drawVarF (bs : List UInt8) : Int := (numF bs (newSt bs)).1
def drawHexF (bs : List UInt8) : List UInt8 := (textF bs (newSt bs) 40).1
theorem drawHexF_length (bs : List UInt8) : (drawHexF bs).length ≤ 40 := by
  rcases hn : textF bs (newSt bs) 40 with ⟨l, s1⟩
  have := textF_length hn (by omega)
  rw [drawHexF, hn]
  simp only
  omega
/-- The text whose beginning may be a Var. -/
def readVarS (bs : List UInt8) : ByteArray × St :=
  (varI (numF bs (newSt bs)).1 ++ (⟨(textF bs (numF bs (newSt bs)).2 4).1.toArray⟩ : ByteArray), (textF bs (numF bs (newSt bs)).2 4).2)
def drawReadVarF (bs : List UInt8) : ByteArray :=
  if (belowF bs (readVarS bs).2 4).1 = 0 then (spoilF bs (belowF bs (readVarS bs).2 4).2 (readVarS bs).1).1 else (readVarS bs).1
theorem varI_size (n : Int) : (varI n).size ≤ 7 := by
  unfold varI
  split
  · rename_i h
    have := varL_len7 (n := n.toNat) (by omega)
    exact this
  · decide
theorem extract_size (t : ByteArray) (i j : Nat) : (t.extract i j).size ≤ t.size := by
  rw [Lib.size_eq, Lib.extract_data, Lib.size_eq]
  simp
  omega
theorem spoilF_size {bs : List UInt8} {s s' : St} {t r : ByteArray} (h : spoilF bs s t = (r, s')) (ht : t.size ≤ 11) : r.size ≤ 100 := by
  have e : r = (spoilF bs s t).1 := by rw [h]
  have hx := fun i j => extract_size t i j
  rw [e, spoilF]
  split
  · rcases hn : textF bs s 3 with ⟨l, s1⟩
    have := textF_length hn (by omega)
    show l.length ≤ 100
    omega
  · split
    · simp only [ByteArray.size_append]
      have h1 := hx 0 (belowF bs s t.size).1.toNat
      have h2 := hx ((belowF bs s t.size).1.toNat + 1) t.size
      omega
    · split
      · simp only [ByteArray.size_append]
        have h1 := hx 0 (belowF bs s t.size).1.toNat
        have h2 := hx (belowF bs s t.size).1.toNat t.size
        have h3 : (⟨#[UInt8.ofNat (byteF bs (belowF bs (belowF bs s t.size).2 4).2).1.toNat]⟩ : ByteArray).size = 1 := rfl
        omega
      · split
        · have h1 := hx 0 (belowF bs s t.size).1.toNat
          simp only
          omega
        · simp only [ByteArray.size_append]
          have h1 := hx 0 (belowF bs s t.size).1.toNat
          have h2 := hx ((belowF bs s t.size).1.toNat + 1) t.size
          have h3 : ∀ c : UInt8, (⟨#[c]⟩ : ByteArray).size = 1 := fun c => rfl
          rw [h3]
          omega
theorem readVarS_size (bs : List UInt8) : (readVarS bs).1.size ≤ 11 := by
  rcases hn : textF bs (numF bs (newSt bs)).2 4 with ⟨l, s1⟩
  have h1 := textF_length hn (by omega)
  have h2 := varI_size (numF bs (newSt bs)).1
  have h3 : (⟨l.toArray⟩ : ByteArray).size = l.length := rfl
  rw [readVarS, hn]
  simp only [ByteArray.size_append, h3]
  omega
theorem drawReadVarF_size (bs : List UInt8) : (drawReadVarF bs).size ≤ 100 := by
  have h1 := readVarS_size bs
  unfold drawReadVarF
  split
  · rcases hs : spoilF bs (belowF bs (readVarS bs).2 4).2 (readVarS bs).1 with ⟨r, s1⟩
    exact spoilF_size hs h1
  · omega

end Go.Proofs.Ytdoofapjhgahgaa
