/-
  What chapter 1's statements draw.
-/
import Derived.Test.YtehlbloalfclcaaDoorDrawSpoil
import Derived.Test.YtehlbloalfclcaaDoorVar
namespace Go.Proofs.YtehlbloalfclcaaDoor
open Go.RowKit
set_option linter.unusedVariables false

/-- The code, as the walks take it. -/
structure CodeIn (B : Nat) (w : World) (a : Option Addr) (bs : List UInt8) : Prop where
  room : bs.length ≤ 1048576
  code : ∀ j (hj : j < bs.length), ∃ b o, a = some ⟨b, o, none⟩ ∧ b < B ∧ w.cell? ⟨b, o + j, none⟩ = some (.int .u8 (bs[j].toNat : Int))
theorem CodeIn.below {B : Nat} {w w' : World} {a : Option Addr} {bs : List UInt8} (h : CodeIn B w a bs) (hb : Below B w w') : CodeIn B w' a bs :=
  ⟨h.room, fun j hj => by
    obtain ⟨b, o, e1, e2, e3⟩ := h.code j hj
    exact ⟨b, o, e1, e2, (hb.cell (p := ⟨b, o + j, none⟩) e2).trans e3⟩⟩

/-- Behind l1New and what is drawn by its cursor nothing that was there has turned. -/
theorem below_new {B : Nat} {w w1 w2 : World} {a : Option Addr} {cap : Nat} {bs : List UInt8} {s : St} (hB : B ≤ w.heap.size) (hg : w.grownBy w1 none) (hd : Drawn B w1 w2 w.heap.size a cap bs s) : Below w.heap.size w w2 :=
  ((Below.refl _ _).grown hg (Nat.le_refl _) (fun k h => by cases h)).grown hd.grown hg.size (fun k h => by cases h; exact Nat.le_refl _)

def drawVarF (bs : List UInt8) : Int := (numF bs (newSt bs)).1
theorem drawVar_at (B : Nat) (w : World) (a : Option Addr) (cap : Nat) (bs : List UInt8) (hB : B ≤ w.heap.size) (hc : CodeIn B w a bs) :
    Calls Tryd.prog 7 #[.slice a bs.length cap] w fun e w' => e = .returned (.int .i64 (drawVarF bs)) ∧ Below w.heap.size w w' := by
  rcases hn : numF bs (newSt bs) with ⟨x, s1⟩
  have HX : Hid (drawVarF bs = x) := Lib.hid (by rw [drawVarF, hn])
  have HN := Lib.hid hn
  have HC := Lib.hid hc
  clear hn hc
  go_enter Tryd.func7, Tryd.ntmps7
  go_wp2_with fail
  refine (l1New_any B _ a cap bs hB HC.out.room HC.out.code).mono ?_
  rintro e w1 ⟨rfl, hat, hg1⟩
  have hs1 := hg1.size
  go_wp2_with fail
  refine (l1Num_at B _ _ a cap bs _ s1 x HN.out hat (by omega)).mono ?_
  rintro e w2 ⟨rfl, hd2⟩
  go_wp2_with fail
  go_ret
  exact ⟨by rw [HX.out]; rfl, below_new hB hg1 hd2⟩

def drawHexF (bs : List UInt8) : List UInt8 := (textF bs (newSt bs) 40).1
theorem drawHexF_length (bs : List UInt8) : (drawHexF bs).length ≤ 40 := by
  rcases hn : textF bs (newSt bs) 40 with ⟨l, s1⟩
  have := textF_length hn (by omega)
  rw [drawHexF, hn]
  simp only
  omega
theorem drawHex_at (B : Nat) (w : World) (a : Option Addr) (cap : Nat) (bs : List UInt8) (hB : B ≤ w.heap.size) (hc : CodeIn B w a bs) :
    Calls Tryd.prog 8 #[.slice a bs.length cap] w fun e w' => e = .returned (.string ⟨(drawHexF bs).toArray⟩) ∧ Below w.heap.size w w' := by
  rcases hn : textF bs (newSt bs) 40 with ⟨l, s1⟩
  have HX : Hid (drawHexF bs = l) := Lib.hid (by rw [drawHexF, hn])
  have HN := Lib.hid hn
  have HC := Lib.hid hc
  clear hn hc
  go_enter Tryd.func8, Tryd.ntmps8
  go_wp2_with fail
  refine (l1New_any B _ a cap bs hB HC.out.room HC.out.code).mono ?_
  rintro e w1 ⟨rfl, hat, hg1⟩
  have hs1 := hg1.size
  go_wp2_with fail
  refine (l1Text_at B _ _ a cap bs _ s1 40 l HN.out hat (by omega) (by omega) (by omega)).mono ?_
  rintro e w2 ⟨rfl, hd2⟩
  go_wp2_with fail
  go_ret
  exact ⟨by rw [HX.out]; rfl, below_new hB hg1 hd2⟩

/-- The text whose beginning may be a Var. -/
def readVarS (bs : List UInt8) : ByteArray × St :=
  (varI (numF bs (newSt bs)).1 ++ (⟨(textF bs (numF bs (newSt bs)).2 4).1.toArray⟩ : ByteArray), (textF bs (numF bs (newSt bs)).2 4).2)
def drawReadVarF (bs : List UInt8) : ByteArray :=
  if (belowF bs (readVarS bs).2 4).1 = 0 then (spoilF bs (belowF bs (readVarS bs).2 4).2 (readVarS bs).1).1 else (readVarS bs).1
theorem varI_size (n : Int) : (varI n).size ≤ 7 := by
  unfold varI
  split
  · rename_i h
    have := varL_len7 (n := n.toNat) (by omega)
    exact this
  · decide
theorem extract_size (t : ByteArray) (i j : Nat) : (t.extract i j).size ≤ t.size := by
  rw [Lib.size_eq, Lib.extract_data, Lib.size_eq]
  simp
  omega
theorem spoilF_size {bs : List UInt8} {s s' : St} {t r : ByteArray} (h : spoilF bs s t = (r, s')) (ht : t.size ≤ 11) : r.size ≤ 100 := by
  have e : r = (spoilF bs s t).1 := by rw [h]
  have hx := fun i j => extract_size t i j
  rw [e, spoilF]
  split
  · rcases hn : textF bs s 3 with ⟨l, s1⟩
    have := textF_length hn (by omega)
    show l.length ≤ 100
    omega
  · split
    · simp only [ByteArray.size_append]
      have h1 := hx 0 (belowF bs s t.size).1.toNat
      have h2 := hx ((belowF bs s t.size).1.toNat + 1) t.size
      omega
    · split
      · simp only [ByteArray.size_append]
        have h1 := hx 0 (belowF bs s t.size).1.toNat
        have h2 := hx (belowF bs s t.size).1.toNat t.size
        have h3 : (⟨#[UInt8.ofNat (byteF bs (belowF bs (belowF bs s t.size).2 4).2).1.toNat]⟩ : ByteArray).size = 1 := rfl
        omega
      · split
        · have h1 := hx 0 (belowF bs s t.size).1.toNat
          simp only
          omega
        · simp only [ByteArray.size_append]
          have h1 := hx 0 (belowF bs s t.size).1.toNat
          have h2 := hx ((belowF bs s t.size).1.toNat + 1) t.size
          have h3 : ∀ c : UInt8, (⟨#[c]⟩ : ByteArray).size = 1 := fun c => rfl
          rw [h3]
          omega
theorem readVarS_size (bs : List UInt8) : (readVarS bs).1.size ≤ 11 := by
  rcases hn : textF bs (numF bs (newSt bs)).2 4 with ⟨l, s1⟩
  have h1 := textF_length hn (by omega)
  have h2 := varI_size (numF bs (newSt bs)).1
  have h3 : (⟨l.toArray⟩ : ByteArray).size = l.length := rfl
  rw [readVarS, hn]
  simp only [ByteArray.size_append, h3]
  omega
theorem drawReadVarF_size (bs : List UInt8) : (drawReadVarF bs).size ≤ 100 := by
  have h1 := readVarS_size bs
  unfold drawReadVarF
  split
  · rcases hs : spoilF bs (belowF bs (readVarS bs).2 4).2 (readVarS bs).1 with ⟨r, s1⟩
    exact spoilF_size hs h1
  · omega

set_option maxRecDepth 100000 in
theorem drawReadVar_at (B : Nat) (w : World) (a : Option Addr) (cap : Nat) (bs : List UInt8) (hB : B ≤ w.heap.size) (hc : CodeIn B w a bs) :
    Calls Tryd.prog 17 #[.slice a bs.length cap] w fun e w' => e = .returned (.string (drawReadVarF bs)) ∧ Below w.heap.size w w' := by
  rcases hn : numF bs (newSt bs) with ⟨n, s1⟩
  rcases ht : textF bs s1 4 with ⟨l, s2⟩
  rcases hq : belowF bs s2 4 with ⟨q, s3⟩
  have hrs : readVarS bs = (varI n ++ (⟨l.toArray⟩ : ByteArray), s2) := by rw [readVarS, hn]; simp only [ht]
  have hll := textF_length ht (by omega)
  have hvs := varI_size n
  obtain ⟨T, hT⟩ : ∃ T, T = varI n ++ (⟨l.toArray⟩ : ByteArray) := ⟨_, rfl⟩
  have hTs : T.size ≤ 11 := by have := readVarS_size bs; rw [hrs, ← hT] at this; exact this
  have hD : drawReadVarF bs = if q = 0 then (spoilF bs s3 T).1 else T := by rw [drawReadVarF, hrs]; simp only [hq, hT]
  obtain ⟨V, hV⟩ : ∃ V, V = varI n := ⟨_, rfl⟩
  have SV := Lib.hid (fun w => specVar_any n w)
  rw [← hV] at SV hT hvs
  obtain ⟨Lt, hLt⟩ : ∃ Lt, Lt = (⟨l.toArray⟩ : ByteArray) := ⟨_, rfl⟩
  have hLs : Lt.size ≤ 4 := by rw [hLt]; show l.length ≤ 4; omega
  have TX := Lib.hid (fun w' hat hBB => l1Text_at B w' w.heap.size a cap bs s1 s2 4 l ht hat hBB (by omega) (by omega))
  rw [← hLt] at TX hT
  have HT := Lib.hid hT
  have HDD := Lib.hid hD
  have HN := Lib.hid hn
  have HQ := Lib.hid hq
  have HC := Lib.hid hc
  clear hn ht hq hrs hD hV hLt hT hc hll
  go_enter Tryd.func17, Tryd.ntmps17
  go_wp2_with fail
  refine (l1New_any B _ a cap bs hB HC.out.room HC.out.code).mono ?_
  rintro e w1 ⟨rfl, hat, hg1⟩
  have hs1 := hg1.size
  have hlt1 : w.heap.size < w1.heap.size := (Array.getElem?_eq_some_iff.1 hat.cur).1
  go_wp2_with fail
  refine (l1Num_at B _ _ a cap bs _ s1 n HN.out hat (by omega)).mono ?_
  rintro e w2 ⟨rfl, hd2⟩
  have hs2 := hd2.grown.size
  go_wp2_with fail
  refine (SV.out _).mono ?_
  rintro e w3 ⟨rfl, hb3⟩
  have hs3 := hb3.size
  have hat3 : CurAt B w3 w.heap.size a cap bs s1 := hd2.at_.keep (hb3.block _ (by omega)) (fun k hk => hb3.block k (by omega))
  have hd3 : Drawn B w1 w3 w.heap.size a cap bs s1 := ⟨hat3, ⟨hb3.os.trans hd2.grown.os, hb3.tape.trans hd2.grown.tape, hb3.output.trans hd2.grown.output, by omega, fun k hk hr => (hb3.block k (by omega)).trans (hd2.grown.block k hk hr)⟩⟩
  go_wp2_with fail
  refine (TX.out _ hat3 (by omega)).mono ?_
  rintro e w4 ⟨rfl, hd4⟩
  go_wp2_with fail
  refine (l1Once_at B _ _ a cap bs s2 s3 4 q HQ.out hd4.at_).mono ?_
  rintro e w5 ⟨rfl, hd5⟩
  have hs5 : w1.heap.size ≤ w5.heap.size := by have := hd3.grown.size; have := hd4.grown.size; have := hd5.grown.size; omega
  by_cases hq0 : q = 0
  · have tq : (q == 0) = true := by simpa using hq0
    rcases hsp : spoilF bs s3 T with ⟨r, s4⟩
    have HR : Hid (drawReadVarF bs = r) := Lib.hid (by rw [HDD.out, if_pos hq0, hsp])
    have HSP := Lib.hid hsp
    rw [HT.out] at HSP
    have hTs' : (V ++ Lt).size ≤ 1000000 := by rw [← HT.out]; omega
    have HTS := Lib.hid hTs'
    clear hq0 hsp hTs'
    go_wp2_with fail
    refine (l1Spoil_at B _ _ a cap bs s3 s4 _ r HSP.out hd5.at_ (by omega) HTS.out).mono ?_
    rintro e w6 ⟨rfl, hd6⟩
    go_wp2_with fail
    go_ret
    exact ⟨by rw [HR.out]; rfl, below_new hB hg1 (((hd3.trans hd4).trans hd5).trans hd6)⟩
  · have tq : (q == 0) = false := by simpa using hq0
    have HR : Hid (drawReadVarF bs = V ++ Lt) := Lib.hid (by rw [HDD.out, if_neg hq0, HT.out])
    clear hq0
    go_wp2_with fail
    go_ret
    exact ⟨by rw [HR.out]; rfl, below_new hB hg1 ((hd3.trans hd4).trans hd5)⟩
end Go.Proofs.YtehlbloalfclcaaDoor
