/-
  Numbers with a point: plain facts.
-/
namespace Go.Proofs.Ytcooobnaocbdjaa

/-- A number taken into the range, and whether it was out of it. -/
def sat (x : Int) : Int := if 2147483647 < x then 2147483647 else if x < -2147483647 then -2147483647 else x
def satB (x : Int) : Bool := decide (2147483647 < x ∨ x < -2147483647)
theorem sat_hi {x : Int} (h : 2147483647 < x) : sat x = 2147483647 ∧ satB x = true := by simp [sat, satB, h]
theorem sat_lo {x : Int} (h : x < -2147483647) : sat x = -2147483647 ∧ satB x = true := by
  have h' : ¬ 2147483647 < x := by omega
  simp [sat, satB, h, h']
theorem sat_mid {x : Int} (h0 : -2147483647 ≤ x) (h1 : x ≤ 2147483647) : sat x = x ∧ satB x = false := by
  have h' : ¬ 2147483647 < x := by omega
  have h'' : ¬ x < -2147483647 := by omega
  simp [sat, satB, h', h'']
theorem sat_range (x : Int) : -2147483647 ≤ sat x ∧ sat x ≤ 2147483647 := by
  unfold sat
  split
  · omega
  · split <;> omega
theorem satB_false {x : Int} (h : satB x = false) : sat x = x := by
  simp only [satB, decide_eq_false_iff_not] at h
  exact (sat_mid (by omega) (by omega)).1
theorem satB_true {x : Int} (h : satB x = true) : sat x = 2147483647 ∨ sat x = -2147483647 := by
  simp only [satB, decide_eq_true_eq] at h
  rcases h with h | h
  · exact Or.inl (sat_hi h).1
  · exact Or.inr (sat_lo h).1
theorem mul_range {a b : Int} (ha0 : -2147483647 ≤ a) (ha1 : a ≤ 2147483647) (hb0 : -2147483647 ≤ b) (hb1 : b ≤ 2147483647) : -4611686014132420609 ≤ a * b ∧ a * b ≤ 4611686014132420609 := by
  have h : (a * b).natAbs ≤ 2147483647 * 2147483647 := by
    rw [Int.natAbs_mul]
    exact Nat.mul_le_mul (by omega) (by omega)
  omega
/-- Is it from lo to hi? -/
def inB (lo hi x : Int) : Bool := decide (lo ≤ x ∧ x ≤ hi)
theorem inB_yes {lo hi x : Int} (h0 : lo ≤ x) (h1 : x ≤ hi) : inB lo hi x = true := decide_eq_true ⟨h0, h1⟩
theorem inB_no {lo hi x : Int} (h : x < lo ∨ hi < x) : inB lo hi x = false := decide_eq_false (by omega)
theorem tdiv_lo {x : Int} (h : x < 0) : x.tdiv 65536 = -((-x) / 65536) := by
  have e : x = -(-x) := by omega
  have : (-(-x)).tdiv 65536 = -((-x) / 65536) := by rw [Int.neg_tdiv, Int.tdiv_eq_ediv_of_nonneg (by omega)]
  rwa [← e] at this
theorem tmod_lo {x : Int} (h : x < 0) : x.tmod 65536 = -((-x) % 65536) := by
  have e : x = -(-x) := by omega
  have : (-(-x)).tmod 65536 = -((-x) % 65536) := by rw [Int.neg_tmod, Int.tmod_eq_emod_of_nonneg (by omega)]
  rwa [← e] at this
theorem floor_eq {x : Int} (hx : x < 0) (h : x.tmod 65536 = 0) : x.tdiv 65536 = x / 65536 := by
  rw [tmod_lo hx] at h
  rw [tdiv_lo hx]
  omega
theorem floor_ne {x : Int} (hx : x < 0) (h : ¬ x.tmod 65536 = 0) : x.tdiv 65536 - 1 = x / 65536 := by
  rw [tmod_lo hx] at h
  rw [tdiv_lo hx]
  omega
/-- The four operations. -/
def addN (a b : Int) : Int := sat (sat a + sat b)
def addB (a b : Int) : Bool := satB (sat a + sat b)
def subN (a b : Int) : Int := sat (sat a - sat b)
def subB (a b : Int) : Bool := satB (sat a - sat b)
def mulN (a b : Int) : Int := sat (sat a * sat b / 65536)
def mulB (a b : Int) : Bool := satB (sat a * sat b / 65536)
end Go.Proofs.Ytcooobnaocbdjaa
