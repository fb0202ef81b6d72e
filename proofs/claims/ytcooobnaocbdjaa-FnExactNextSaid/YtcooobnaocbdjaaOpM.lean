/-
  Operations: what comes of them, as plain functions.
-/
import Derived.Test.YtcooobnaocbdjaaMatM
import Derived.Test.YtcooobnaocbdjaaVecLawM
namespace Go.Proofs.Ytcooobnaocbdjaa
set_option linter.unusedVariables false

/-- How many parameters a kind has. -/
def opSz (k i o : Int) : Int := if inB 1 6 i && inB 1 6 o then (if k = 1 ∨ k = 5 then i * o else if k = 2 then i else if k = 4 then 1 else 0) else 0
/-- Is it a right operation? -/
def opOkB (k i o : Int) (ps : List Int) : Bool := inB 1 5 k && inB 1 6 i && inB 1 6 o && (decide (k = 1) || decide (i = o)) && decide ((ps.length : Int) = opSz k i o) && ps.all okB
theorem opOkB_has {k i o : Int} {ps : List Int} (h : opOkB k i o ps = true) :
    ∃ m n : Nat, i = m ∧ o = n ∧ (1 ≤ m ∧ m ≤ 6) ∧ (1 ≤ n ∧ n ≤ 6) ∧ (k = 1 ∨ i = o) ∧ inB 1 5 k = true ∧ (ps.length : Int) = opSz k i o ∧ ps.all okB = true := by
  unfold opOkB at h
  simp only [Bool.and_eq_true, Bool.or_eq_true, decide_eq_true_eq] at h
  obtain ⟨⟨⟨⟨⟨h1, h2⟩, h3⟩, h4⟩, h5⟩, h6⟩ := h
  obtain ⟨a0, a1⟩ := inB_has h2
  obtain ⟨b0, b1⟩ := inB_has h3
  exact ⟨i.toNat, o.toNat, by omega, by omega, ⟨by omega, by omega⟩, ⟨by omega, by omega⟩, h4, h1, h5, h6⟩
theorem opSz_in {k : Int} {m n : Nat} (hm : 1 ≤ m ∧ m ≤ 6) (hn : 1 ≤ n ∧ n ≤ 6) : opSz k m n = (if k = 1 ∨ k = 5 then (m : Int) * n else if k = 2 then (m : Int) else if k = 4 then 1 else 0) := by
  unfold opSz
  rw [inB_yes (by omega) (by omega), inB_yes (by omega) (by omega)]
  rfl
/-- What goes ahead. -/
def fwOk (k i o : Int) (ps xs : List Int) : Bool := opOkB k i o ps && vecOkB xs && decide ((xs.length : Int) = i)
def fwN (k i o : Int) (ps xs : List Int) : List Int :=
  if fwOk k i o ps xs then (if k = 1 then mvN o i ps xs else if k = 2 then rowP addN xs ps else if k = 3 then rowP (fun x _ => reluN x) xs xs else if k = 4 then scaleN (ps.getD 0 0) xs else rowP addN xs (mvN o i ps xs)) else []
def fwB (k i o : Int) (ps xs : List Int) : Bool :=
  fwOk k i o ps xs && (if k = 1 then mvB o i ps xs else if k = 2 then flagP addB xs ps else if k = 3 then false else if k = 4 then scaleB (ps.getD 0 0) xs else mvB o i ps xs || flagP addB xs (mvN o i ps xs))
/-- What goes back: ahead of it, the gradients, the mark. -/
def bwOk (k i o : Int) (ps xs ds : List Int) : Bool := fwOk k i o ps xs && vecOkB ds && decide ((ds.length : Int) = o)
def bwN (k i o : Int) (ps xs ds : List Int) : List Int :=
  if bwOk k i o ps xs ds then (if k = 1 then mbN o i ps ds else if k = 2 then ds else if k = 3 then rowP maskN xs ds else if k = 4 then scaleN (ps.getD 0 0) ds else rowP addN ds (mbN o i ps ds)) else []
def bwG (k i o : Int) (ps xs ds : List Int) : List Int :=
  if bwOk k i o ps xs ds then (if k = 1 ∨ k = 5 then outN ds xs else if k = 2 then ds else if k = 4 then [dotN ds xs] else []) else []
def bwB (k i o : Int) (ps xs ds : List Int) : Bool :=
  bwOk k i o ps xs ds && (if k = 1 then mbB o i ps ds || outB ds xs else if k = 2 then false else if k = 3 then false else if k = 4 then scaleB (ps.getD 0 0) ds || dotB ds xs else mbB o i ps ds || outB ds xs || flagP addB ds (mbN o i ps ds))
/-- How many products a step ahead takes. -/
def opCostN (k i o : Int) (ps : List Int) : Int := if opOkB k i o ps then (if k = 1 ∨ k = 5 then i * o else if k = 4 then i else 0) else 0
def sameOpB (k i o : Int) (ps : List Int) (k' i' o' : Int) (qs : List Int) : Bool := decide (k = k') && (decide (i = i') && (decide (o = o') && decide (ps = qs)))

/-! ### Sizes and ranges -/
theorem all_mapK {f : Nat → Int} (h : ∀ j, okB (f j) = true) (k : Nat) : (mapK f k).all okB = true :=
  all_of_get fun j hj => by rw [mapK_length] at hj; rw [mapK_get f k j hj]; exact h j
theorem vecOkB_mk {xs : List Int} {n : Nat} (hl : xs.length = n) (hn : 1 ≤ n ∧ n ≤ 6) (h : ∀ j, j < n → okB (xs.getD j 0) = true) : vecOkB xs = true :=
  vecOkB_yes (by omega) (by omega) fun j hj => h j (by omega)
theorem okB_zero : okB 0 = true := by decide
theorem sumK_ok (xs ys : List Int) (k : Nat) : okB (dotK xs ys k) = true := by
  cases k with
  | zero => exact okB_zero
  | succ k => exact okB_sat _
theorem dotN_ok (xs ys : List Int) : okB (dotN xs ys) = true := by
  unfold dotN
  split
  · exact sumK_ok _ _ _
  · exact okB_zero
theorem reluN_ok (x : Int) : okB (reluN x) = true := by
  rcases (relu_cases x).2 with h | h
  · rw [h]; exact okB_zero
  · rw [h]; exact okB_sat _
theorem rowP_ok {f : Int → Int → Int} {xs ys : List Int} (hp : pairB xs ys = true) (h : ∀ j, j < xs.length → okB (f (xs.getD j 0) (ys.getD j 0)) = true) : (rowP f xs ys).length = xs.length ∧ vecOkB (rowP f xs ys) = true := by
  obtain ⟨h1, h2, _⟩ := pairB_has hp
  obtain ⟨a, b, _⟩ := vecOkB_has h1
  rw [rowP_yes f hp]
  refine ⟨rowK_length _ _ _ _, vecOkB_mk (rowK_length _ _ _ _) ⟨a, b⟩ fun j hj => ?_⟩
  rw [rowK_get _ _ _ _ _ hj]
  exact h j hj
theorem scaleN_ok {c : Int} {xs : List Int} (hc : okB c = true) (hx : vecOkB xs = true) : (scaleN c xs).length = xs.length ∧ vecOkB (scaleN c xs) = true := by
  unfold scaleN
  rw [hc]
  exact rowP_ok (by rw [pairB_self]; exact hx) fun j _ => okB_sat _
theorem mv_ok {m n : Nat} {ps xs : List Int} (hm : 1 ≤ m ∧ m ≤ 6) (hn : 1 ≤ n ∧ n ≤ 6) (hl : ps.length = n * m) (ha : ps.all okB = true) (hx : vecOkB xs = true) (hxl : xs.length = m) :
    (mvN n m ps xs).length = n ∧ vecOkB (mvN n m ps xs) = true ∧ mvN n m ps xs = mapK (fun i => dotN (rowOf m ps i) xs) n ∧ mvB n m ps xs = anyK (fun i => dotB (rowOf m ps i) xs) n := by
  have ho : mvOk n m ps xs = true := by
    unfold mvOk
    rw [matOkB_nat hn hm hl ha, hx, decide_eq_true (by rw [hxl])]
    rfl
  have e : mvN n m ps xs = mapK (fun i => dotN (rowOf m ps i) xs) n := by unfold mvN; rw [ho]; rfl
  have e' : mvB n m ps xs = anyK (fun i => dotB (rowOf m ps i) xs) n := by unfold mvB; rw [ho]; rfl
  have hlen : (mvN n m ps xs).length = n := by rw [e, mapK_length]
  exact ⟨hlen, vecOkB_mk hlen hn fun j hj => by rw [e, mapK_get _ _ _ hj]; exact dotN_ok _ _, e, e'⟩
theorem mb_ok {m n : Nat} {ps ds : List Int} (hm : 1 ≤ m ∧ m ≤ 6) (hn : 1 ≤ n ∧ n ≤ 6) (hl : ps.length = n * m) (ha : ps.all okB = true) (hd : vecOkB ds = true) (hdl : ds.length = n) :
    (mbN n m ps ds).length = m ∧ vecOkB (mbN n m ps ds) = true ∧ mbN n m ps ds = mapK (fun k => dotN (colOf n m ps k) ds) m ∧ mbB n m ps ds = anyK (fun k => dotB (colOf n m ps k) ds) m := by
  have ho : mbOk n m ps ds = true := by
    unfold mbOk
    rw [matOkB_nat hn hm hl ha, hd, decide_eq_true (by rw [hdl])]
    rfl
  have e : mbN n m ps ds = mapK (fun k => dotN (colOf n m ps k) ds) m := by unfold mbN; rw [ho]; rfl
  have e' : mbB n m ps ds = anyK (fun k => dotB (colOf n m ps k) ds) m := by unfold mbB; rw [ho]; rfl
  have hlen : (mbN n m ps ds).length = m := by rw [e, mapK_length]
  exact ⟨hlen, vecOkB_mk hlen hm fun j hj => by rw [e, mapK_get _ _ _ hj]; exact dotN_ok _ _, e, e'⟩
/-- What comes ahead has Out numbers, all in the range. -/
theorem fw_size {k i o : Int} {ps xs : List Int} (h : fwOk k i o ps xs = true) : ((fwN k i o ps xs).length : Int) = o ∧ vecOkB (fwN k i o ps xs) = true := by
  have hh := h
  unfold fwOk at hh
  simp only [Bool.and_eq_true, decide_eq_true_eq] at hh
  obtain ⟨⟨hop, hx⟩, hxl⟩ := hh
  obtain ⟨m, n, rfl, rfl, hm, hn, hio, hk, hl, ha⟩ := opOkB_has hop
  rw [opSz_in hm hn] at hl
  have hxl' : xs.length = m := by exact_mod_cast hxl
  unfold fwN
  rw [h, if_pos rfl]
  by_cases k1 : k = 1
  · subst k1
    rw [if_pos rfl]
    rw [if_pos (.inl rfl)] at hl
    have hl' : ps.length = n * m := by rw [Nat.mul_comm]; exact_mod_cast hl
    obtain ⟨a, b, _⟩ := mv_ok hm hn hl' ha hx hxl'
    exact ⟨by rw [a], b⟩
  · have hmn : m = n := by rcases hio with h | h; exact absurd h k1; exact_mod_cast h
    subst hmn
    rw [if_neg k1]
    by_cases k2 : k = 2
    · subst k2
      rw [if_pos rfl]
      simp only [Int.reduceEq, or_self, if_false, if_true] at hl
      have hp : pairB xs ps = true := by
        unfold pairB
        rw [hx, vecOkB_mk (by exact_mod_cast hl) hm fun j hj => get_of_all ha j (by omega), decide_eq_true (by omega)]
        rfl
      obtain ⟨a, b⟩ := rowP_ok (f := addN) hp fun j _ => okB_sat _
      exact ⟨by rw [a]; exact hxl, b⟩
    · rw [if_neg k2]
      by_cases k3 : k = 3
      · rw [if_pos k3]
        obtain ⟨a, b⟩ := rowP_ok (f := fun x _ => reluN x) (xs := xs) (ys := xs) (by rw [pairB_self]; exact hx) fun j _ => reluN_ok _
        exact ⟨by rw [a]; exact hxl, b⟩
      · rw [if_neg k3]
        by_cases k4 : k = 4
        · rw [if_pos k4]
          subst k4
          simp only [Int.reduceEq, or_self, if_false, if_true] at hl
          obtain ⟨a, b⟩ := scaleN_ok (c := ps.getD 0 0) (get_of_all ha 0 (by omega)) hx
          exact ⟨by rw [a]; exact hxl, b⟩
        · rw [if_neg k4]
          have k5 : k = 5 := by have := inB_has hk; omega
          subst k5
          simp only [Int.reduceEq, or_true, if_true] at hl
          have hl' : ps.length = m * m := by exact_mod_cast hl
          obtain ⟨a, b, _⟩ := mv_ok hm hm hl' ha hx hxl'
          obtain ⟨c, d⟩ := rowP_ok (f := addN) (xs := xs) (ys := mvN m m ps xs) (by unfold pairB; rw [hx, b, decide_eq_true (by omega)]; rfl) fun j _ => okB_sat _
          exact ⟨by rw [c]; exact hxl, d⟩
theorem fw_no {k i o : Int} {ps xs : List Int} (h : fwOk k i o ps xs = false) : fwN k i o ps xs = [] ∧ fwB k i o ps xs = false := by
  unfold fwN fwB
  rw [h]
  exact ⟨rfl, rfl⟩
theorem bw_no {k i o : Int} {ps xs ds : List Int} (h : bwOk k i o ps xs ds = false) : bwN k i o ps xs ds = [] ∧ bwG k i o ps xs ds = [] ∧ bwB k i o ps xs ds = false := by
  unfold bwN bwG bwB
  rw [h]
  exact ⟨rfl, rfl, rfl⟩
theorem outN_yes {ds xs : List Int} (hd : vecOkB ds = true) (hx : vecOkB xs = true) : outN ds xs = gridK (fun i k => mulN (ds.getD i 0) (xs.getD k 0)) xs.length ds.length ∧ outB ds xs = gridB (fun i k => mulB (ds.getD i 0) (xs.getD k 0)) xs.length ds.length := by
  have hb : bothB ds xs = true := by unfold bothB; rw [hd, hx]; rfl
  unfold outN outB
  rw [hb]
  exact ⟨rfl, rfl⟩
/-- What comes back has In numbers, all in the range, and as many gradients as there are parameters. -/
theorem bw_size {k i o : Int} {ps xs ds : List Int} (h : bwOk k i o ps xs ds = true) : ((bwN k i o ps xs ds).length : Int) = i ∧ vecOkB (bwN k i o ps xs ds) = true ∧ ((bwG k i o ps xs ds).length : Int) = opSz k i o := by
  have hh := h
  unfold bwOk fwOk at hh
  simp only [Bool.and_eq_true, decide_eq_true_eq] at hh
  obtain ⟨⟨⟨⟨hop, hx⟩, hxl⟩, hd⟩, hdl⟩ := hh
  obtain ⟨m, n, rfl, rfl, hm, hn, hio, hk, hl, ha⟩ := opOkB_has hop
  rw [opSz_in hm hn] at hl ⊢
  have hxl' : xs.length = m := by exact_mod_cast hxl
  have hdl' : ds.length = n := by exact_mod_cast hdl
  have hg : ((outN ds xs).length : Int) = (m : Int) * n := by
    rw [(outN_yes hd hx).1, gridK_length, hxl', hdl', Nat.mul_comm]
    push_cast
    rfl
  unfold bwN bwG
  rw [h, if_pos rfl, if_pos rfl]
  by_cases k1 : k = 1
  · subst k1
    rw [if_pos rfl, if_pos (.inl rfl), if_pos (.inl rfl)]
    rw [if_pos (.inl rfl)] at hl
    have hl' : ps.length = n * m := by rw [Nat.mul_comm]; exact_mod_cast hl
    obtain ⟨a, b, _⟩ := mb_ok hm hn hl' ha hd hdl'
    exact ⟨by rw [a], b, hg⟩
  · have hmn : m = n := by rcases hio with h | h; exact absurd h k1; exact_mod_cast h
    subst hmn
    rw [if_neg k1]
    by_cases k2 : k = 2
    · subst k2
      rw [if_pos rfl]
      simp only [Int.reduceEq, or_self, if_false, if_true] at hl ⊢
      exact ⟨hdl, hd, hdl⟩
    · rw [if_neg k2]
      by_cases k3 : k = 3
      · subst k3
        rw [if_pos rfl]
        simp only [Int.reduceEq, or_self, if_false] at hl ⊢
        obtain ⟨a, b⟩ := rowP_ok (f := maskN) (xs := xs) (ys := ds) (by unfold pairB; rw [hx, hd, decide_eq_true (by omega)]; rfl) fun j hj => by
          rcases maskN_cases (xs.getD j 0) (ds.getD j 0) with ⟨_, e⟩ | ⟨_, e⟩
          · rw [e]; exact (vecOkB_has hd).2.2 j (by omega)
          · rw [e]; exact okB_zero
        exact ⟨by rw [a]; exact hxl, b, rfl⟩
      · rw [if_neg k3]
        by_cases k4 : k = 4
        · subst k4
          rw [if_pos rfl]
          simp only [Int.reduceEq, or_self, if_false, if_true] at hl ⊢
          obtain ⟨a, b⟩ := scaleN_ok (c := ps.getD 0 0) (get_of_all ha 0 (by omega)) hd
          exact ⟨by rw [a]; exact hdl, b, rfl⟩
        · rw [if_neg k4]
          have k5 : k = 5 := by have := inB_has hk; omega
          subst k5
          simp only [Int.reduceEq, or_true, if_true] at hl ⊢
          have hl' : ps.length = m * m := by exact_mod_cast hl
          obtain ⟨a, b, _⟩ := mb_ok hm hm hl' ha hd hdl'
          obtain ⟨c, d⟩ := rowP_ok (f := addN) (xs := ds) (ys := mbN m m ps ds) (by unfold pairB; rw [hd, b, decide_eq_true (by omega)]; rfl) fun j _ => okB_sat _
          exact ⟨by rw [c]; exact hdl, d, hg⟩

/-! ### Back with nought -/
def noughts (n : Nat) : List Int := List.replicate n 0
theorem noughts_length (n : Nat) : (noughts n).length = n := by simp [noughts]
theorem noughts_get (n j : Nat) : (noughts n).getD j 0 = 0 := by
  unfold noughts
  by_cases h : j < n <;> simp [List.getD, h]
theorem zero_mul_ok (a : Int) : mulN 0 a = 0 ∧ mulB 0 a = false := by
  have h := mulN_comm a 0
  have z := mul_zero_ok a
  exact ⟨by rw [h.1]; exact z.1, by rw [h.2]; exact z.2⟩
theorem noughts_ok (n : Nat) (hn : 1 ≤ n ∧ n ≤ 6) : vecOkB (noughts n) = true := vecOkB_mk (noughts_length n) hn fun j _ => by rw [noughts_get]; exact okB_zero
theorem dotK_noughts (xs : List Int) (n k : Nat) : dotK xs (noughts n) k = 0 ∧ dotKB xs (noughts n) k = false := by
  induction k with
  | zero => exact ⟨rfl, rfl⟩
  | succ k ih =>
    have e1 : dotK xs (noughts n) (k + 1) = dotF (dotK xs (noughts n) k) (xs.getD k 0) ((noughts n).getD k 0) := rfl
    have e2 : dotKB xs (noughts n) (k + 1) = (dotKB xs (noughts n) k || dotG (dotK xs (noughts n) k) (xs.getD k 0) ((noughts n).getD k 0)) := rfl
    rw [e1, e2, ih.1, ih.2, noughts_get]
    unfold dotF dotG
    rw [(mul_zero_ok _).1, (mul_zero_ok _).2]
    exact ⟨rfl, rfl⟩
theorem dot_noughts (xs : List Int) (n : Nat) : dotN xs (noughts n) = 0 ∧ dotB xs (noughts n) = false := by
  unfold dotN dotB
  rw [(dotK_noughts xs n xs.length).1, (dotK_noughts xs n xs.length).2]
  exact ⟨by split <;> rfl, by simp⟩
theorem anyK_none {g : Nat → Bool} (h : ∀ j, g j = false) (k : Nat) : anyK g k = false := by
  induction k with
  | zero => rfl
  | succ k ih => rw [anyK, ih, h]; rfl
theorem gridB_none {g : Nat → Nat → Bool} (h : ∀ i j, g i j = false) (c k : Nat) : gridB g c k = false := by
  induction k with
  | zero => rfl
  | succ k ih => rw [gridB, ih, anyK_none (h k)]; rfl
/-- All are nought. -/
def AllZ (xs : List Int) : Prop := ∀ j, xs.getD j 0 = 0
theorem allZ_nil : AllZ [] := fun j => by simp
theorem allZ_of {xs : List Int} (h : ∀ j, j < xs.length → xs.getD j 0 = 0) : AllZ xs := fun j => by
  by_cases hj : j < xs.length
  · exact h j hj
  · simp [List.getD, List.getElem?_eq_none (by omega : xs.length ≤ j)]
theorem allZ_mapK {f : Nat → Int} (h : ∀ j, f j = 0) (k : Nat) : AllZ (mapK f k) := allZ_of fun j hj => by
  rw [mapK_length] at hj
  rw [mapK_get f k j hj]
  exact h j
theorem flagK_none' {g : Int → Int → Bool} {xs ys : List Int} (h : ∀ j, g (xs.getD j 0) (ys.getD j 0) = false) (k : Nat) : flagK g xs ys k = false := by
  induction k with
  | zero => rfl
  | succ k ih => rw [flagK, ih, h]; rfl
theorem allZ_rowP {f : Int → Int → Int} {xs ys : List Int} (h : ∀ j, f (xs.getD j 0) (ys.getD j 0) = 0) : AllZ (rowP f xs ys) := by
  unfold rowP
  split
  · exact allZ_of fun j hj => by
      rw [rowK_length] at hj
      rw [rowK_get _ _ _ _ _ hj]
      exact h j
  · exact allZ_nil
theorem mb_noughts {m n : Nat} {ps : List Int} : AllZ (mbN n m ps (noughts n)) ∧ mbB n m ps (noughts n) = false := by
  unfold mbN mbB
  constructor
  · split
    · exact allZ_mapK (fun k => (dot_noughts _ n).1) _
    · exact allZ_nil
  · rw [anyK_none fun k => (dot_noughts _ n).2]
    simp
theorem out_noughts {n : Nat} {xs : List Int} : AllZ (outN (noughts n) xs) ∧ outB (noughts n) xs = false := by
  unfold outN outB
  constructor
  · split
    · refine allZ_of fun p hp => ?_
      rw [gridK_length] at hp
      have hc : 0 < xs.length := by
        rcases Nat.eq_zero_or_pos xs.length with e | e
        · rw [e, Nat.mul_zero] at hp; omega
        · exact e
      have g1 : p / xs.length < (noughts n).length := Nat.div_lt_of_lt_mul (by rw [Nat.mul_comm]; exact hp)
      have g2 : p % xs.length < xs.length := Nat.mod_lt _ hc
      have g3 : p / xs.length * xs.length + p % xs.length = p := by rw [Nat.mul_comm]; exact Nat.div_add_mod p xs.length
      rw [← g3, gridK_get _ _ _ _ _ g1 g2, noughts_get]
      exact (zero_mul_ok _).1
    · exact allZ_nil
  · rw [gridB_none fun i j => by rw [noughts_get]; exact (zero_mul_ok _).2]
    simp
theorem allZ_noughts (n : Nat) : AllZ (noughts n) := noughts_get n
/-- Back with nought comes to nought. -/
theorem bw_noughts (k i o : Int) (ps xs : List Int) (n : Nat) (ho : o = n) : AllZ (bwN k i o ps xs (noughts n)) ∧ AllZ (bwG k i o ps xs (noughts n)) ∧ bwB k i o ps xs (noughts n) = false := by
  subst ho
  cases h : bwOk k i n ps xs (noughts n) with
  | false =>
    obtain ⟨a, b, c⟩ := bw_no h
    rw [a, b, c]
    exact ⟨allZ_nil, allZ_nil, rfl⟩
  | true =>
    have hh := h
    unfold bwOk fwOk at hh
    simp only [Bool.and_eq_true, decide_eq_true_eq] at hh
    obtain ⟨m, _, rfl, _⟩ := opOkB_has hh.1.1.1.1
    have z1 := mb_noughts (m := m) (n := n) (ps := ps)
    have z2 := out_noughts (n := n) (xs := xs)
    have z3 : addN 0 0 = 0 ∧ addB 0 0 = false := by decide
    unfold bwN bwG bwB
    rw [h, if_pos rfl, if_pos rfl, z1.2, z2.2]
    refine ⟨?_, ?_, ?_⟩
    · split
      · exact z1.1
      · split
        · exact allZ_noughts n
        · split
          · exact allZ_rowP fun j => by
              rw [noughts_get]
              rcases maskN_cases (xs.getD j 0) 0 with ⟨_, e⟩ | ⟨_, e⟩ <;> exact e
          · split
            · unfold scaleN
              split
              · exact allZ_rowP fun j => by rw [noughts_get]; exact (mul_zero_ok _).1
              · exact allZ_nil
            · exact allZ_rowP fun j => by rw [noughts_get, z1.1 j]; exact z3.1
    · split
      · exact z2.1
      · split
        · exact allZ_noughts n
        · split
          · refine allZ_of fun j hj => ?_
            obtain rfl : j = 0 := by simpa using hj
            show dotN (noughts n) xs = 0
            rw [(dot_comm xs (noughts n)).1]
            exact (dot_noughts xs n).1
          · exact allZ_nil
    · have f1 : flagP addB (noughts n) (mbN n m ps (noughts n)) = false := by
        unfold flagP
        rw [flagK_none' fun j => by rw [noughts_get, z1.1 j]; exact z3.2]
        simp
      have f2 : scaleB (ps.getD 0 0) (noughts n) = false := by
        unfold scaleB flagP
        rw [flagK_none' fun j => by rw [noughts_get]; exact (mul_zero_ok _).2]
        simp
      have f3 : dotB (noughts n) xs = false := by rw [(dot_comm xs (noughts n)).2]; exact (dot_noughts xs n).2
      rw [f1, f2, f3]
      simp
end Go.Proofs.Ytcooobnaocbdjaa
