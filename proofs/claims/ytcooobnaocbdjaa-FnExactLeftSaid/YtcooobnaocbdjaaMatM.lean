/-
  Tables of numbers: what comes of them, as plain functions.
-/
import Derived.Test.YtcooobnaocbdjaaVecM
import Derived.Test.YtcooobnaocbdjaaFixMore
import Derived.Test.YtcooobnaocbdjaaVecLawM
namespace Go.Proofs.Ytcooobnaocbdjaa
set_option linter.unusedVariables false

/-- What comes of the places below k. -/
def mapK (f : Nat → Int) : Nat → List Int
  | 0 => []
  | k + 1 => mapK f k ++ [f k]
theorem mapK_length (f : Nat → Int) (k : Nat) : (mapK f k).length = k := by
  induction k with
  | zero => rfl
  | succ k ih => simp [mapK, ih]
theorem mapK_get (f : Nat → Int) (k j : Nat) (hj : j < k) : (mapK f k).getD j 0 = f j := by
  induction k with
  | zero => omega
  | succ k ih =>
    have hl := mapK_length f k
    by_cases e : j = k
    · subst e
      simp only [mapK, List.getD]
      rw [List.getElem?_append_right (by omega), hl, Nat.sub_self]
      rfl
    · have := ih (by omega)
      simp only [mapK, List.getD] at this ⊢
      rw [List.getElem?_append_left (by omega)]
      exact this
theorem mapK_congr {f g : Nat → Int} (k : Nat) (h : ∀ j, j < k → f j = g j) : mapK f k = mapK g k := by
  induction k with
  | zero => rfl
  | succ k ih => simp only [mapK]; rw [ih (fun j hj => h j (by omega)), h k (by omega)]
def anyK (g : Nat → Bool) : Nat → Bool
  | 0 => false
  | k + 1 => anyK g k || g k
theorem anyK_congr {f g : Nat → Bool} (k : Nat) (h : ∀ j, j < k → f j = g j) : anyK f k = anyK g k := by
  induction k with
  | zero => rfl
  | succ k ih => simp only [anyK]; rw [ih (fun j hj => h j (by omega)), h k (by omega)]
/-- Row by row. -/
def gridK (f : Nat → Nat → Int) (c : Nat) : Nat → List Int
  | 0 => []
  | i + 1 => gridK f c i ++ mapK (f i) c
theorem gridK_length (f : Nat → Nat → Int) (c r : Nat) : (gridK f c r).length = r * c := by
  induction r with
  | zero => simp [gridK]
  | succ r ih => rw [gridK, List.length_append, ih, mapK_length, Nat.succ_mul]
theorem gridK_get (f : Nat → Nat → Int) (c r i k : Nat) (hi : i < r) (hk : k < c) : (gridK f c r).getD (i * c + k) 0 = f i k := by
  induction r with
  | zero => omega
  | succ r ih =>
    have hl := gridK_length f c r
    by_cases e : i = r
    · subst e
      have := mapK_get (f i) c k hk
      simp only [gridK, List.getD] at this ⊢
      rw [List.getElem?_append_right (by omega), hl, show i * c + k - i * c = k by omega]
      exact this
    · have hle : (i + 1) * c ≤ r * c := Nat.mul_le_mul_right c (by omega)
      rw [Nat.succ_mul] at hle
      have := ih (by omega)
      simp only [gridK, List.getD] at this ⊢
      rw [List.getElem?_append_left (by omega)]
      exact this
theorem getD_ext {xs ys : List Int} (hl : xs.length = ys.length) (h : ∀ j, j < xs.length → xs.getD j 0 = ys.getD j 0) : xs = ys := by
  refine List.ext_getElem? fun j => ?_
  by_cases hj : j < xs.length
  · have := h j hj
    rw [List.getElem?_eq_getElem hj, List.getElem?_eq_getElem (by omega)]
    simpa [List.getD, hj, (by omega : j < ys.length)] using this
  · rw [List.getElem?_eq_none (by omega), List.getElem?_eq_none (by omega)]
/-- A list of r rows of c is the grid of its places. -/
theorem grid_of (xs : List Int) (r c : Nat) (hl : xs.length = r * c) : gridK (fun i k => xs.getD (i * c + k) 0) c r = xs := by
  have hg := gridK_length (fun i k => xs.getD (i * c + k) 0) c r
  refine getD_ext (by omega) fun p hp => ?_
  rw [hg] at hp
  have hc : 0 < c := by
    rcases Nat.eq_zero_or_pos c with e | e
    · subst e; omega
    · exact e
  have h1 : p / c < r := Nat.div_lt_of_lt_mul (by rw [Nat.mul_comm]; exact hp)
  have h2 : p % c < c := Nat.mod_lt _ hc
  have h3 : p / c * c + p % c = p := by rw [Nat.mul_comm]; exact Nat.div_add_mod p c
  have := gridK_get (fun i k => xs.getD (i * c + k) 0) c r (p / c) (p % c) h1 h2
  rw [h3] at this
  exact this
theorem gridK_congr {f g : Nat → Nat → Int} (c r : Nat) (h : ∀ i k, i < r → k < c → f i k = g i k) : gridK f c r = gridK g c r := by
  induction r with
  | zero => rfl
  | succ r ih => simp only [gridK]; rw [ih (fun i k hi hk => h i k (by omega) hk), mapK_congr c (fun k hk => h r k (by omega) hk)]

/-- Row i, column k of a list of rows of c. -/
def rowOf (c : Nat) (xs : List Int) (i : Nat) : List Int := (xs.drop (i * c)).take c
def colF (c : Nat) (xs : List Int) (k i : Nat) : Int := xs.getD (i * c + k) 0
def colOf (r c : Nat) (xs : List Int) (k : Nat) : List Int := mapK (colF c xs k) r
theorem rowOf_length {r c : Nat} {xs : List Int} {i : Nat} (hl : xs.length = r * c) (hi : i < r) : (rowOf c xs i).length = c := by
  have hle : (i + 1) * c ≤ r * c := Nat.mul_le_mul_right c (by omega)
  rw [Nat.succ_mul] at hle
  unfold rowOf
  simp
  omega
theorem rowOf_get (c : Nat) (xs : List Int) (i k : Nat) (hk : k < c) : (rowOf c xs i).getD k 0 = xs.getD (i * c + k) 0 := by
  simp [rowOf, List.getD, hk, List.getElem?_drop]
theorem colOf_length (r c : Nat) (xs : List Int) (k : Nat) : (colOf r c xs k).length = r := mapK_length _ _
theorem colOf_get (r c : Nat) (xs : List Int) (k i : Nat) (hi : i < r) : (colOf r c xs k).getD i 0 = xs.getD (i * c + k) 0 := mapK_get _ _ _ hi

/-- Is it a right table? -/
def matOkB (r c : Int) (xs : List Int) : Bool := inB 1 6 r && inB 1 6 c && decide ((xs.length : Int) = r * c) && xs.all okB
theorem inB_has {lo hi x : Int} (h : inB lo hi x = true) : lo ≤ x ∧ x ≤ hi := by unfold inB at h; simpa using h
theorem all_of_get {xs : List Int} (h : ∀ j, j < xs.length → okB (xs.getD j 0) = true) : xs.all okB = true := by
  refine List.all_eq_true.2 fun x hx => ?_
  obtain ⟨j, hj, rfl⟩ := List.mem_iff_getElem.1 hx
  have := h j hj
  simpa [List.getD, hj] using this
theorem get_of_all {xs : List Int} (h : xs.all okB = true) (j : Nat) (hj : j < xs.length) : okB (xs.getD j 0) = true := by
  have h2 := List.all_eq_true.1 h
  refine h2 _ ?_
  simp [List.getD, hj]
theorem all_place {xs : List Int} {k : Nat} (hk : k < xs.length) (h : okB (xs.getD k 0) = false) : xs.all okB = false := by
  have h1 : xs.getD k 0 ∈ xs := by simp [List.getD, hk]
  exact List.all_eq_false.2 ⟨_, h1, by rw [h]; decide⟩
theorem matOkB_has {r c : Int} {xs : List Int} (h : matOkB r c xs = true) : ∃ m n : Nat, r = m ∧ c = n ∧ (1 ≤ m ∧ m ≤ 6) ∧ (1 ≤ n ∧ n ≤ 6) ∧ xs.length = m * n ∧ xs.all okB = true := by
  unfold matOkB at h
  simp only [Bool.and_eq_true, decide_eq_true_eq] at h
  obtain ⟨⟨⟨h1, h2⟩, h3⟩, h4⟩ := h
  obtain ⟨a0, a1⟩ := inB_has h1
  obtain ⟨b0, b1⟩ := inB_has h2
  refine ⟨r.toNat, c.toNat, by omega, by omega, ⟨by omega, by omega⟩, ⟨by omega, by omega⟩, ?_, h4⟩
  have e1 : r = (r.toNat : Int) := by omega
  have e2 : c = (c.toNat : Int) := by omega
  rw [e1, e2] at h3
  exact_mod_cast h3
theorem matOkB_nat {m n : Nat} {xs : List Int} (h1 : 1 ≤ m ∧ m ≤ 6) (h2 : 1 ≤ n ∧ n ≤ 6) (hl : xs.length = m * n) (h : xs.all okB = true) : matOkB m n xs = true := by
  unfold matOkB
  rw [inB_yes (by omega) (by omega), inB_yes (by omega) (by omega), h, decide_eq_true (by rw [hl]; push_cast; rfl)]
  rfl
theorem rowOf_ok {m n : Nat} {xs : List Int} (h2 : 1 ≤ n ∧ n ≤ 6) (hl : xs.length = m * n) (h : xs.all okB = true) {i : Nat} (hi : i < m) : vecOkB (rowOf n xs i) = true := by
  have hrl := rowOf_length hl hi
  refine vecOkB_yes (by omega) (by omega) fun k hk => ?_
  rw [hrl] at hk
  have hle : (i + 1) * n ≤ m * n := Nat.mul_le_mul_right n (by omega)
  rw [Nat.succ_mul] at hle
  rw [rowOf_get n xs i k hk]
  exact get_of_all h _ (by omega)
theorem place_lt {m n i k : Nat} (hi : i < m) (hk : k < n) : i * n + k < m * n := by
  have hle : (i + 1) * n ≤ m * n := Nat.mul_le_mul_right n (by omega)
  rw [Nat.succ_mul] at hle
  omega
theorem colOf_ok {m n : Nat} {xs : List Int} (h1 : 1 ≤ m ∧ m ≤ 6) (hl : xs.length = m * n) (h : xs.all okB = true) {k : Nat} (hk : k < n) : vecOkB (colOf m n xs k) = true := by
  have hcl := colOf_length m n xs k
  refine vecOkB_yes (by omega) (by omega) fun i hi => ?_
  rw [hcl] at hi
  rw [colOf_get m n xs k i hi]
  exact get_of_all h _ (by rw [hl]; exact place_lt hi hk)

/-- What the functions of chapter 4 tell. -/
def mvOk (r c : Int) (xs ys : List Int) : Bool := matOkB r c xs && vecOkB ys && decide ((ys.length : Int) = c)
def mbOk (r c : Int) (xs ys : List Int) : Bool := matOkB r c xs && vecOkB ys && decide ((ys.length : Int) = r)
def mvN (r c : Int) (xs ys : List Int) : List Int := if mvOk r c xs ys then mapK (fun i => dotN (rowOf c.toNat xs i) ys) r.toNat else []
def mvB (r c : Int) (xs ys : List Int) : Bool := mvOk r c xs ys && anyK (fun i => dotB (rowOf c.toNat xs i) ys) r.toNat
def mbN (r c : Int) (xs ys : List Int) : List Int := if mbOk r c xs ys then mapK (fun k => dotN (colOf r.toNat c.toNat xs k) ys) c.toNat else []
def mbB (r c : Int) (xs ys : List Int) : Bool := mbOk r c xs ys && anyK (fun k => dotB (colOf r.toNat c.toNat xs k) ys) c.toNat
def bothB (xs ys : List Int) : Bool := vecOkB xs && vecOkB ys
/-- Outer: rows, columns, places, mark. -/
def outR (ds xs : List Int) : Int := if bothB ds xs then ds.length else 0
def outC (ds xs : List Int) : Int := if bothB ds xs then xs.length else 0
def outN (ds xs : List Int) : List Int := if bothB ds xs then gridK (fun i k => mulN (ds.getD i 0) (xs.getD k 0)) xs.length ds.length else []
def gridB (g : Nat → Nat → Bool) (c : Nat) : Nat → Bool
  | 0 => false
  | i + 1 => gridB g c i || anyK (g i) c
def outB (ds xs : List Int) : Bool := bothB ds xs && gridB (fun i k => mulB (ds.getD i 0) (xs.getD k 0)) xs.length ds.length
/-- Transpose. -/
def trR (r c : Int) (xs : List Int) : Int := if matOkB r c xs then c else 0
def trC (r c : Int) (xs : List Int) : Int := if matOkB r c xs then r else 0
def trN (r c : Int) (xs : List Int) : List Int := if matOkB r c xs then gridK (fun k i => xs.getD (i * c.toNat + k) 0) r.toNat c.toNat else []
theorem le36 {m n : Nat} (h1 : m ≤ 6) (h2 : n ≤ 6) : m * n ≤ 36 := Nat.mul_le_mul h1 h2
theorem mvN_length (r c : Int) (xs ys : List Int) : (mvN r c xs ys).length ≤ 6 := by
  unfold mvN
  split
  · rename_i h
    unfold mvOk at h
    simp only [Bool.and_eq_true] at h
    obtain ⟨m, n, rfl, rfl, hm, _⟩ := matOkB_has h.1.1
    rw [mapK_length]
    simpa using hm.2
  · decide
theorem mbN_length (r c : Int) (xs ys : List Int) : (mbN r c xs ys).length ≤ 6 := by
  unfold mbN
  split
  · rename_i h
    unfold mbOk at h
    simp only [Bool.and_eq_true] at h
    obtain ⟨m, n, rfl, rfl, hm, hn, _⟩ := matOkB_has h.1.1
    rw [mapK_length]
    simpa using hn.2
  · decide
theorem outN_length (ds xs : List Int) : (outN ds xs).length ≤ 36 := by
  unfold outN
  split
  · rename_i h
    unfold bothB at h
    simp only [Bool.and_eq_true] at h
    rw [gridK_length]
    exact le36 (vecOkB_has h.1).2.1 (vecOkB_has h.2).2.1
  · decide
theorem trN_length (r c : Int) (xs : List Int) : (trN r c xs).length ≤ 36 := by
  unfold trN
  split
  · rename_i h
    obtain ⟨m, n, rfl, rfl, hm, hn, _⟩ := matOkB_has h
    rw [gridK_length]
    exact le36 (by simpa using hn.2) (by simpa using hm.2)
  · decide

/-! ### What the law asks -/
theorem tr_yes {m n : Nat} {xs : List Int} (h1 : 1 ≤ m ∧ m ≤ 6) (h2 : 1 ≤ n ∧ n ≤ 6) (hl : xs.length = m * n) (h : xs.all okB = true) :
    trR m n xs = n ∧ trC m n xs = m ∧ trN m n xs = gridK (fun k i => xs.getD (i * n + k) 0) m n := by
  have hk := matOkB_nat h1 h2 hl h
  unfold trR trC trN
  rw [hk]
  exact ⟨rfl, rfl, rfl⟩
theorem tr_all {m n : Nat} {xs : List Int} (hl : xs.length = m * n) (h : xs.all okB = true) : (gridK (fun k i => xs.getD (i * n + k) 0) m n).all okB = true := by
  refine all_of_get fun p hp => ?_
  rw [gridK_length] at hp
  have hc : 0 < m := by
    rcases Nat.eq_zero_or_pos m with e | e
    · subst e; omega
    · exact e
  have g1 : p / m < n := Nat.div_lt_of_lt_mul (by rw [Nat.mul_comm]; exact hp)
  have g2 : p % m < m := Nat.mod_lt _ hc
  have g3 : p / m * m + p % m = p := by rw [Nat.mul_comm]; exact Nat.div_add_mod p m
  rw [← g3, gridK_get _ _ _ _ _ g1 g2]
  exact get_of_all h _ (by rw [hl]; exact place_lt g2 g1)
/-- Turned about, rows are columns. -/
theorem row_of_tr {m n : Nat} (xs : List Int) {k : Nat} (hk : k < n) : rowOf m (gridK (fun k i => xs.getD (i * n + k) 0) m n) k = colOf m n xs k := by
  have hl := gridK_length (fun k i => xs.getD (i * n + k) 0) m n
  refine getD_ext (by rw [rowOf_length hl hk, colOf_length]) fun i hi => ?_
  rw [rowOf_length hl hk] at hi
  rw [rowOf_get _ _ _ _ hi, colOf_get _ _ _ _ _ hi, gridK_get _ _ _ _ _ hk hi]
/-- MatBack is MatVec of what is turned about. -/
theorem mb_is_mv (r c : Int) (xs ds : List Int) : mvN (trR r c xs) (trC r c xs) (trN r c xs) ds = mbN r c xs ds ∧ mvB (trR r c xs) (trC r c xs) (trN r c xs) ds = mbB r c xs ds := by
  cases hm : matOkB r c xs with
  | false =>
    have e1 : trR r c xs = 0 ∧ trC r c xs = 0 ∧ trN r c xs = [] := by unfold trR trC trN; rw [hm]; exact ⟨rfl, rfl, rfl⟩
    have e2 : mbOk r c xs ds = false := by unfold mbOk; rw [hm]; rfl
    have e3 : mvOk 0 0 [] ds = false := by unfold mvOk; rw [show matOkB 0 0 [] = false from rfl]; rfl
    rw [e1.1, e1.2.1, e1.2.2]
    unfold mvN mvB mbN mbB
    rw [e2, e3]
    exact ⟨rfl, rfl⟩
  | true =>
    obtain ⟨m, n, rfl, rfl, h1, h2, hl, ha⟩ := matOkB_has hm
    obtain ⟨e1, e2, e3⟩ := tr_yes h1 h2 hl ha
    rw [e1, e2, e3]
    have hk : matOkB (n : Int) (m : Int) (gridK (fun k i => xs.getD (i * n + k) 0) m n) = true := matOkB_nat h2 h1 (gridK_length _ _ _) (tr_all hl ha)
    have e4 : mvOk (n : Int) (m : Int) (gridK (fun k i => xs.getD (i * n + k) 0) m n) ds = mbOk (m : Int) (n : Int) xs ds := by unfold mvOk mbOk; rw [hk, hm]
    have e5 : mapK (fun i => dotN (rowOf (m : Int).toNat (gridK (fun k i => xs.getD (i * n + k) 0) m n) i) ds) (n : Int).toNat = mapK (fun k => dotN (colOf (m : Int).toNat (n : Int).toNat xs k) ds) (n : Int).toNat := by
      simp only [Int.toNat_natCast]
      exact mapK_congr n fun k hk => by rw [row_of_tr xs hk]
    have e6 : anyK (fun i => dotB (rowOf (m : Int).toNat (gridK (fun k i => xs.getD (i * n + k) 0) m n) i) ds) (n : Int).toNat = anyK (fun k => dotB (colOf (m : Int).toNat (n : Int).toNat xs k) ds) (n : Int).toNat := by
      simp only [Int.toNat_natCast]
      exact anyK_congr n fun k hk => by rw [row_of_tr xs hk]
    unfold mvN mvB mbN mbB
    rw [e4, e5, e6]
    exact ⟨rfl, rfl⟩
/-- Turned about twice it is what it was. -/
theorem tr_tr {r c : Int} {xs : List Int} (hm : matOkB r c xs = true) : trR (trR r c xs) (trC r c xs) (trN r c xs) = r ∧ trC (trR r c xs) (trC r c xs) (trN r c xs) = c ∧ trN (trR r c xs) (trC r c xs) (trN r c xs) = xs := by
  obtain ⟨m, n, rfl, rfl, h1, h2, hl, ha⟩ := matOkB_has hm
  obtain ⟨e1, e2, e3⟩ := tr_yes h1 h2 hl ha
  rw [e1, e2, e3]
  obtain ⟨f1, f2, f3⟩ := tr_yes h2 h1 (gridK_length (fun k i => xs.getD (i * n + k) 0) m n) (tr_all hl ha)
  rw [f1, f2, f3]
  refine ⟨rfl, rfl, ?_⟩
  refine Eq.trans (gridK_congr n m fun i k hi hk => ?_) (grid_of xs m n hl)
  exact gridK_get (fun k i => xs.getD (i * n + k) 0) m n k i hk hi
theorem mapK_anyK_swap (g : Nat → Nat → Bool) (c r : Nat) : gridB g c r = anyK (fun k => anyK (fun i => g i k) r) c := by
  induction r with
  | zero =>
    have : ∀ c, anyK (fun _ => false) c = false := fun c => by
      induction c with
      | zero => rfl
      | succ c ih => simp [anyK, ih]
    exact (this c).symm
  | succ r ih =>
    rw [gridB, ih]
    clear ih
    induction c with
    | zero => rfl
    | succ c ih =>
      simp only [anyK] at ih ⊢
      rw [← ih]
      cases anyK (fun k => anyK (fun i => g i k) r) c <;> cases anyK (fun i => g i c) r <;> cases anyK (g r) c <;> cases g r c <;> rfl
theorem gridB_anyK (g : Nat → Nat → Bool) (c r : Nat) : gridB g c r = anyK (fun i => anyK (g i) c) r := by
  induction r with
  | zero => rfl
  | succ r ih => simp only [gridB, anyK]; rw [ih]
/-- Outer, turned about. -/
theorem out_tr (us vs : List Int) : outB vs us = outB us vs ∧ trR (outR us vs) (outC us vs) (outN us vs) = outR vs us ∧ trC (outR us vs) (outC us vs) (outN us vs) = outC vs us ∧ trN (outR us vs) (outC us vs) (outN us vs) = outN vs us := by
  have hc : bothB vs us = bothB us vs := by unfold bothB; exact Bool.and_comm _ _
  cases hb : bothB us vs with
  | false =>
    have hb' : bothB vs us = false := by rw [hc]; exact hb
    unfold outB outR outC outN
    rw [hb, hb']
    exact ⟨rfl, rfl, rfl, rfl⟩
  | true =>
    have hb' : bothB vs us = true := by rw [hc]; exact hb
    have hh := hb
    unfold bothB at hh
    simp only [Bool.and_eq_true] at hh
    obtain ⟨a1, a6, _⟩ := vecOkB_has hh.1
    obtain ⟨b1, b6, _⟩ := vecOkB_has hh.2
    unfold outB outR outC outN
    rw [hb, hb']
    simp only [if_true, Bool.true_and]
    have hl := gridK_length (fun i k => mulN (us.getD i 0) (vs.getD k 0)) vs.length us.length
    have ha : (gridK (fun i k => mulN (us.getD i 0) (vs.getD k 0)) vs.length us.length).all okB = true := by
      refine all_of_get fun p hp => ?_
      rw [hl] at hp
      have g1 : p / vs.length < us.length := Nat.div_lt_of_lt_mul (by rw [Nat.mul_comm]; exact hp)
      have g2 : p % vs.length < vs.length := Nat.mod_lt _ (by omega)
      have g3 : p / vs.length * vs.length + p % vs.length = p := by rw [Nat.mul_comm]; exact Nat.div_add_mod p vs.length
      rw [← g3, gridK_get _ _ _ _ _ g1 g2]
      exact okB_sat _
    obtain ⟨e1, e2, e3⟩ := tr_yes ⟨a1, a6⟩ ⟨b1, b6⟩ hl ha
    refine ⟨?_, e1, e2, ?_⟩
    · rw [mapK_anyK_swap, gridB_anyK]
      refine anyK_congr _ fun i _ => anyK_congr _ fun k _ => ?_
      exact (mulN_comm _ _).2
    · rw [e3]
      refine gridK_congr _ _ fun k i hk hi => ?_
      rw [gridK_get _ _ _ _ _ hi hk]
      exact (mulN_comm _ _).1
end Go.Proofs.Ytcooobnaocbdjaa
