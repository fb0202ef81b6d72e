import Derived.Test.YtkmcfbopilieeaaJoin5
import Derived.Test.YtkmcfbopilieeaaJoin6
/-! YtkmcfbopilieeaaOpM -/
section

namespace Go.Proofs.Ytkmcfbopilieeaa
set_option linter.unusedVariables false

/-- How many parameters a kind has. -/
def opSz (k i o : Int) : Int := if inB 1 6 i && inB 1 6 o then (if k = 1 ∨ k = 5 then i * o else if k = 2 then i else if k = 4 then 1 else 0) else 0
/-- Is it a right operation? -/
def opOkB (k i o : Int) (ps : List Int) : Bool := inB 1 5 k && inB 1 6 i && inB 1 6 o && (decide (k = 1) || decide (i = o)) && decide ((ps.length : Int) = opSz k i o) && ps.all okB
theorem opOkB_has {k i o : Int} {ps : List Int} (h : opOkB k i o ps = true) :
    ∃ m n : Nat, i = m ∧ o = n ∧ (1 ≤ m ∧ m ≤ 6) ∧ (1 ≤ n ∧ n ≤ 6) ∧ (k = 1 ∨ i = o) ∧ inB 1 5 k = true ∧ (ps.length : Int) = opSz k i o ∧ ps.all okB = true := by
  unfold opOkB at h
  simp only [Bool.and_eq_true, Bool.or_eq_true, decide_eq_true_eq] at h
  obtain ⟨⟨⟨⟨⟨h1, h2⟩, h3⟩, h4⟩, h5⟩, h6⟩ := h
  obtain ⟨a0, a1⟩ := inB_has h2
  obtain ⟨b0, b1⟩ := inB_has h3
  exact ⟨i.toNat, o.toNat, by omega, by omega, ⟨by omega, by omega⟩, ⟨by omega, by omega⟩, h4, h1, h5, h6⟩
theorem opSz_in {k : Int} {m n : Nat} (hm : 1 ≤ m ∧ m ≤ 6) (hn : 1 ≤ n ∧ n ≤ 6) : opSz k m n = (if k = 1 ∨ k = 5 then (m : Int) * n else if k = 2 then (m : Int) else if k = 4 then 1 else 0) := by
  unfold opSz
  rw [inB_yes (by omega) (by omega), inB_yes (by omega) (by omega)]
  rfl
/-- What goes ahead. -/
def fwOk (k i o : Int) (ps xs : List Int) : Bool := opOkB k i o ps && vecOkB xs && decide ((xs.length : Int) = i)
def fwN (k i o : Int) (ps xs : List Int) : List Int :=
  if fwOk k i o ps xs then (if k = 1 then mvN o i ps xs else if k = 2 then rowP addN xs ps else if k = 3 then rowP (fun x _ => reluN x) xs xs else if k = 4 then scaleN (ps.getD 0 0) xs else rowP addN xs (mvN o i ps xs)) else []
def fwB (k i o : Int) (ps xs : List Int) : Bool :=
  fwOk k i o ps xs && (if k = 1 then mvB o i ps xs else if k = 2 then flagP addB xs ps else if k = 3 then false else if k = 4 then scaleB (ps.getD 0 0) xs else mvB o i ps xs || flagP addB xs (mvN o i ps xs))
/-- What goes back: ahead of it, the gradients, the mark. -/
def bwOk (k i o : Int) (ps xs ds : List Int) : Bool := fwOk k i o ps xs && vecOkB ds && decide ((ds.length : Int) = o)
def bwN (k i o : Int) (ps xs ds : List Int) : List Int :=
  if bwOk k i o ps xs ds then (if k = 1 then mbN o i ps ds else if k = 2 then ds else if k = 3 then rowP maskN xs ds else if k = 4 then scaleN (ps.getD 0 0) ds else rowP addN ds (mbN o i ps ds)) else []
def bwG (k i o : Int) (ps xs ds : List Int) : List Int :=
  if bwOk k i o ps xs ds then (if k = 1 ∨ k = 5 then outN ds xs else if k = 2 then ds else if k = 4 then [dotN ds xs] else []) else []
def bwB (k i o : Int) (ps xs ds : List Int) : Bool :=
  bwOk k i o ps xs ds && (if k = 1 then mbB o i ps ds || outB ds xs else if k = 2 then false else if k = 3 then false else if k = 4 then scaleB (ps.getD 0 0) ds || dotB ds xs else mbB o i ps ds || outB ds xs || flagP addB ds (mbN o i ps ds))
/-- How many products a step ahead takes. -/
def opCostN (k i o : Int) (ps : List Int) : Int := if opOkB k i o ps then (if k = 1 ∨ k = 5 then i * o else if k = 4 then i else 0) else 0
def sameOpB (k i o : Int) (ps : List Int) (k' i' o' : Int) (qs : List Int) : Bool := decide (k = k') && (decide (i = i') && (decide (o = o') && decide (ps = qs)))

/-! ### Sizes and ranges -/
theorem all_mapK {f : Nat → Int} (h : ∀ j, okB (f j) = true) (k : Nat) : (mapK f k).all okB = true :=
  all_of_get fun j hj => by rw [mapK_length] at hj; rw [mapK_get f k j hj]; exact h j
theorem vecOkB_mk {xs : List Int} {n : Nat} (hl : xs.length = n) (hn : 1 ≤ n ∧ n ≤ 6) (h : ∀ j, j < n → okB (xs.getD j 0) = true) : vecOkB xs = true :=
  vecOkB_yes (by omega) (by omega) fun j hj => h j (by omega)
theorem okB_zero : okB 0 = true := by decide
theorem sumK_ok (xs ys : List Int) (k : Nat) : okB (dotK xs ys k) = true := by
  cases k with
  | zero => exact okB_zero
  | succ k => exact okB_sat _
theorem dotN_ok (xs ys : List Int) : okB (dotN xs ys) = true := by
  unfold dotN
  split
  · exact sumK_ok _ _ _
  · exact okB_zero
theorem reluN_ok (x : Int) : okB (reluN x) = true := by
  rcases (relu_cases x).2 with h | h
  · rw [h]; exact okB_zero
  · rw [h]; exact okB_sat _
theorem rowP_ok {f : Int → Int → Int} {xs ys : List Int} (hp : pairB xs ys = true) (h : ∀ j, j < xs.length → okB (f (xs.getD j 0) (ys.getD j 0)) = true) : (rowP f xs ys).length = xs.length ∧ vecOkB (rowP f xs ys) = true := by
  obtain ⟨h1, h2, _⟩ := pairB_has hp
  obtain ⟨a, b, _⟩ := vecOkB_has h1
  rw [rowP_yes f hp]
  refine ⟨rowK_length _ _ _ _, vecOkB_mk (rowK_length _ _ _ _) ⟨a, b⟩ fun j hj => ?_⟩
  rw [rowK_get _ _ _ _ _ hj]
  exact h j hj
theorem scaleN_ok {c : Int} {xs : List Int} (hc : okB c = true) (hx : vecOkB xs = true) : (scaleN c xs).length = xs.length ∧ vecOkB (scaleN c xs) = true := by
  unfold scaleN
  rw [hc]
  exact rowP_ok (by rw [pairB_self]; exact hx) fun j _ => okB_sat _
theorem mv_ok {m n : Nat} {ps xs : List Int} (hm : 1 ≤ m ∧ m ≤ 6) (hn : 1 ≤ n ∧ n ≤ 6) (hl : ps.length = n * m) (ha : ps.all okB = true) (hx : vecOkB xs = true) (hxl : xs.length = m) :
    (mvN n m ps xs).length = n ∧ vecOkB (mvN n m ps xs) = true ∧ mvN n m ps xs = mapK (fun i => dotN (rowOf m ps i) xs) n ∧ mvB n m ps xs = anyK (fun i => dotB (rowOf m ps i) xs) n := by
  have ho : mvOk n m ps xs = true := by
    unfold mvOk
    rw [matOkB_nat hn hm hl ha, hx, decide_eq_true (by rw [hxl])]
    rfl
  have e : mvN n m ps xs = mapK (fun i => dotN (rowOf m ps i) xs) n := by unfold mvN; rw [ho]; rfl
  have e' : mvB n m ps xs = anyK (fun i => dotB (rowOf m ps i) xs) n := by unfold mvB; rw [ho]; rfl
  have hlen : (mvN n m ps xs).length = n := by rw [e, mapK_length]
  exact ⟨hlen, vecOkB_mk hlen hn fun j hj => by rw [e, mapK_get _ _ _ hj]; exact dotN_ok _ _, e, e'⟩
theorem mb_ok {m n : Nat} {ps ds : List Int} (hm : 1 ≤ m ∧ m ≤ 6) (hn : 1 ≤ n ∧ n ≤ 6) (hl : ps.length = n * m) (ha : ps.all okB = true) (hd : vecOkB ds = true) (hdl : ds.length = n) :
    (mbN n m ps ds).length = m ∧ vecOkB (mbN n m ps ds) = true ∧ mbN n m ps ds = mapK (fun k => dotN (colOf n m ps k) ds) m ∧ mbB n m ps ds = anyK (fun k => dotB (colOf n m ps k) ds) m := by
  have ho : mbOk n m ps ds = true := by
    unfold mbOk
    rw [matOkB_nat hn hm hl ha, hd, decide_eq_true (by rw [hdl])]
    rfl
  have e : mbN n m ps ds = mapK (fun k => dotN (colOf n m ps k) ds) m := by unfold mbN; rw [ho]; rfl
  have e' : mbB n m ps ds = anyK (fun k => dotB (colOf n m ps k) ds) m := by unfold mbB; rw [ho]; rfl
  have hlen : (mbN n m ps ds).length = m := by rw [e, mapK_length]
  exact ⟨hlen, vecOkB_mk hlen hm fun j hj => by rw [e, mapK_get _ _ _ hj]; exact dotN_ok _ _, e, e'⟩
/-- What comes ahead has Out numbers, all in the range. -/
theorem fw_size {k i o : Int} {ps xs : List Int} (h : fwOk k i o ps xs = true) : ((fwN k i o ps xs).length : Int) = o ∧ vecOkB (fwN k i o ps xs) = true := by
  have hh := h
  unfold fwOk at hh
  simp only [Bool.and_eq_true, decide_eq_true_eq] at hh
  obtain ⟨⟨hop, hx⟩, hxl⟩ := hh
  obtain ⟨m, n, rfl, rfl, hm, hn, hio, hk, hl, ha⟩ := opOkB_has hop
  rw [opSz_in hm hn] at hl
  have hxl' : xs.length = m := by exact_mod_cast hxl
  unfold fwN
  rw [h, if_pos rfl]
  by_cases k1 : k = 1
  · subst k1
    rw [if_pos rfl]
    rw [if_pos (.inl rfl)] at hl
    have hl' : ps.length = n * m := by rw [Nat.mul_comm]; exact_mod_cast hl
    obtain ⟨a, b, _⟩ := mv_ok hm hn hl' ha hx hxl'
    exact ⟨by rw [a], b⟩
  · have hmn : m = n := by rcases hio with h | h; exact absurd h k1; exact_mod_cast h
    subst hmn
    rw [if_neg k1]
    by_cases k2 : k = 2
    · subst k2
      rw [if_pos rfl]
      simp only [Int.reduceEq, or_self, if_false, if_true] at hl
      have hp : pairB xs ps = true := by
        unfold pairB
        rw [hx, vecOkB_mk (by exact_mod_cast hl) hm fun j hj => get_of_all ha j (by omega), decide_eq_true (by omega)]
        rfl
      obtain ⟨a, b⟩ := rowP_ok (f := addN) hp fun j _ => okB_sat _
      exact ⟨by rw [a]; exact hxl, b⟩
    · rw [if_neg k2]
      by_cases k3 : k = 3
      · rw [if_pos k3]
        obtain ⟨a, b⟩ := rowP_ok (f := fun x _ => reluN x) (xs := xs) (ys := xs) (by rw [pairB_self]; exact hx) fun j _ => reluN_ok _
        exact ⟨by rw [a]; exact hxl, b⟩
      · rw [if_neg k3]
        by_cases k4 : k = 4
        · rw [if_pos k4]
          subst k4
          simp only [Int.reduceEq, or_self, if_false, if_true] at hl
          obtain ⟨a, b⟩ := scaleN_ok (c := ps.getD 0 0) (get_of_all ha 0 (by omega)) hx
          exact ⟨by rw [a]; exact hxl, b⟩
        · rw [if_neg k4]
          have k5 : k = 5 := by have := inB_has hk; omega
          subst k5
          simp only [Int.reduceEq, or_true, if_true] at hl
          have hl' : ps.length = m * m := by exact_mod_cast hl
          obtain ⟨a, b, _⟩ := mv_ok hm hm hl' ha hx hxl'
          obtain ⟨c, d⟩ := rowP_ok (f := addN) (xs := xs) (ys := mvN m m ps xs) (by unfold pairB; rw [hx, b, decide_eq_true (by omega)]; rfl) fun j _ => okB_sat _
          exact ⟨by rw [c]; exact hxl, d⟩
theorem fw_no {k i o : Int} {ps xs : List Int} (h : fwOk k i o ps xs = false) : fwN k i o ps xs = [] ∧ fwB k i o ps xs = false := by
  unfold fwN fwB
  rw [h]
  exact ⟨rfl, rfl⟩
theorem bw_no {k i o : Int} {ps xs ds : List Int} (h : bwOk k i o ps xs ds = false) : bwN k i o ps xs ds = [] ∧ bwG k i o ps xs ds = [] ∧ bwB k i o ps xs ds = false := by
  unfold bwN bwG bwB
  rw [h]
  exact ⟨rfl, rfl, rfl⟩
theorem outN_yes {ds xs : List Int} (hd : vecOkB ds = true) (hx : vecOkB xs = true) : outN ds xs = gridK (fun i k => mulN (ds.getD i 0) (xs.getD k 0)) xs.length ds.length ∧ outB ds xs = gridB (fun i k => mulB (ds.getD i 0) (xs.getD k 0)) xs.length ds.length := by
  have hb : bothB ds xs = true := by unfold bothB; rw [hd, hx]; rfl
  unfold outN outB
  rw [hb]
  exact ⟨rfl, rfl⟩
/-- What comes back has In numbers, all in the range, and as many gradients as there are parameters. -/
theorem bw_size {k i o : Int} {ps xs ds : List Int} (h : bwOk k i o ps xs ds = true) : ((bwN k i o ps xs ds).length : Int) = i ∧ vecOkB (bwN k i o ps xs ds) = true ∧ ((bwG k i o ps xs ds).length : Int) = opSz k i o := by
  have hh := h
  unfold bwOk fwOk at hh
  simp only [Bool.and_eq_true, decide_eq_true_eq] at hh
  obtain ⟨⟨⟨⟨hop, hx⟩, hxl⟩, hd⟩, hdl⟩ := hh
  obtain ⟨m, n, rfl, rfl, hm, hn, hio, hk, hl, ha⟩ := opOkB_has hop
  rw [opSz_in hm hn] at hl ⊢
  have hxl' : xs.length = m := by exact_mod_cast hxl
  have hdl' : ds.length = n := by exact_mod_cast hdl
  have hg : ((outN ds xs).length : Int) = (m : Int) * n := by
    rw [(outN_yes hd hx).1, gridK_length, hxl', hdl', Nat.mul_comm]
    push_cast
    rfl
  unfold bwN bwG
  rw [h, if_pos rfl, if_pos rfl]
  by_cases k1 : k = 1
  · subst k1
    rw [if_pos rfl, if_pos (.inl rfl), if_pos (.inl rfl)]
    rw [if_pos (.inl rfl)] at hl
    have hl' : ps.length = n * m := by rw [Nat.mul_comm]; exact_mod_cast hl
    obtain ⟨a, b, _⟩ := mb_ok hm hn hl' ha hd hdl'
    exact ⟨by rw [a], b, hg⟩
  · have hmn : m = n := by rcases hio with h | h; exact absurd h k1; exact_mod_cast h
    subst hmn
    rw [if_neg k1]
    by_cases k2 : k = 2
    · subst k2
      rw [if_pos rfl]
      simp only [Int.reduceEq, or_self, if_false, if_true] at hl ⊢
      exact ⟨hdl, hd, hdl⟩
    · rw [if_neg k2]
      by_cases k3 : k = 3
      · subst k3
        rw [if_pos rfl]
        simp only [Int.reduceEq, or_self, if_false] at hl ⊢
        obtain ⟨a, b⟩ := rowP_ok (f := maskN) (xs := xs) (ys := ds) (by unfold pairB; rw [hx, hd, decide_eq_true (by omega)]; rfl) fun j hj => by
          rcases maskN_cases (xs.getD j 0) (ds.getD j 0) with ⟨_, e⟩ | ⟨_, e⟩
          · rw [e]; exact (vecOkB_has hd).2.2 j (by omega)
          · rw [e]; exact okB_zero
        exact ⟨by rw [a]; exact hxl, b, rfl⟩
      · rw [if_neg k3]
        by_cases k4 : k = 4
        · subst k4
          rw [if_pos rfl]
          simp only [Int.reduceEq, or_self, if_false, if_true] at hl ⊢
          obtain ⟨a, b⟩ := scaleN_ok (c := ps.getD 0 0) (get_of_all ha 0 (by omega)) hd
          exact ⟨by rw [a]; exact hdl, b, rfl⟩
        · rw [if_neg k4]
          have k5 : k = 5 := by have := inB_has hk; omega
          subst k5
          simp only [Int.reduceEq, or_true, if_true] at hl ⊢
          have hl' : ps.length = m * m := by exact_mod_cast hl
          obtain ⟨a, b, _⟩ := mb_ok hm hm hl' ha hd hdl'
          obtain ⟨c, d⟩ := rowP_ok (f := addN) (xs := ds) (ys := mbN m m ps ds) (by unfold pairB; rw [hd, b, decide_eq_true (by omega)]; rfl) fun j _ => okB_sat _
          exact ⟨by rw [c]; exact hdl, d, hg⟩

/-! ### Back with nought -/
def noughts (n : Nat) : List Int := List.replicate n 0
theorem noughts_length (n : Nat) : (noughts n).length = n := by simp [noughts]
theorem noughts_get (n j : Nat) : (noughts n).getD j 0 = 0 := by
  unfold noughts
  by_cases h : j < n <;> simp [List.getD, h]
theorem zero_mul_ok (a : Int) : mulN 0 a = 0 ∧ mulB 0 a = false := by
  have h := mulN_comm a 0
  have z := mul_zero_ok a
  exact ⟨by rw [h.1]; exact z.1, by rw [h.2]; exact z.2⟩
theorem noughts_ok (n : Nat) (hn : 1 ≤ n ∧ n ≤ 6) : vecOkB (noughts n) = true := vecOkB_mk (noughts_length n) hn fun j _ => by rw [noughts_get]; exact okB_zero
theorem dotK_noughts (xs : List Int) (n k : Nat) : dotK xs (noughts n) k = 0 ∧ dotKB xs (noughts n) k = false := by
  induction k with
  | zero => exact ⟨rfl, rfl⟩
  | succ k ih =>
    have e1 : dotK xs (noughts n) (k + 1) = dotF (dotK xs (noughts n) k) (xs.getD k 0) ((noughts n).getD k 0) := rfl
    have e2 : dotKB xs (noughts n) (k + 1) = (dotKB xs (noughts n) k || dotG (dotK xs (noughts n) k) (xs.getD k 0) ((noughts n).getD k 0)) := rfl
    rw [e1, e2, ih.1, ih.2, noughts_get]
    unfold dotF dotG
    rw [(mul_zero_ok _).1, (mul_zero_ok _).2]
    exact ⟨rfl, rfl⟩
theorem dot_noughts (xs : List Int) (n : Nat) : dotN xs (noughts n) = 0 ∧ dotB xs (noughts n) = false := by
  unfold dotN dotB
  rw [(dotK_noughts xs n xs.length).1, (dotK_noughts xs n xs.length).2]
  exact ⟨by split <;> rfl, by simp⟩
theorem anyK_none {g : Nat → Bool} (h : ∀ j, g j = false) (k : Nat) : anyK g k = false := by
  induction k with
  | zero => rfl
  | succ k ih => rw [anyK, ih, h]; rfl
theorem gridB_none {g : Nat → Nat → Bool} (h : ∀ i j, g i j = false) (c k : Nat) : gridB g c k = false := by
  induction k with
  | zero => rfl
  | succ k ih => rw [gridB, ih, anyK_none (h k)]; rfl
/-- All are nought. -/
def AllZ (xs : List Int) : Prop := ∀ j, xs.getD j 0 = 0
theorem allZ_nil : AllZ [] := fun j => by simp
theorem allZ_of {xs : List Int} (h : ∀ j, j < xs.length → xs.getD j 0 = 0) : AllZ xs := fun j => by
  by_cases hj : j < xs.length
  · exact h j hj
  · simp [List.getD, List.getElem?_eq_none (by omega : xs.length ≤ j)]
theorem allZ_mapK {f : Nat → Int} (h : ∀ j, f j = 0) (k : Nat) : AllZ (mapK f k) := allZ_of fun j hj => by
  rw [mapK_length] at hj
  rw [mapK_get f k j hj]
  exact h j
theorem flagK_none' {g : Int → Int → Bool} {xs ys : List Int} (h : ∀ j, g (xs.getD j 0) (ys.getD j 0) = false) (k : Nat) : flagK g xs ys k = false := by
  induction k with
  | zero => rfl
  | succ k ih => rw [flagK, ih, h]; rfl
theorem allZ_rowP {f : Int → Int → Int} {xs ys : List Int} (h : ∀ j, f (xs.getD j 0) (ys.getD j 0) = 0) : AllZ (rowP f xs ys) := by
  unfold rowP
  split
  · exact allZ_of fun j hj => by
      rw [rowK_length] at hj
      rw [rowK_get _ _ _ _ _ hj]
      exact h j
  · exact allZ_nil
theorem mb_noughts {m n : Nat} {ps : List Int} : AllZ (mbN n m ps (noughts n)) ∧ mbB n m ps (noughts n) = false := by
  unfold mbN mbB
  constructor
  · split
    · exact allZ_mapK (fun k => (dot_noughts _ n).1) _
    · exact allZ_nil
  · rw [anyK_none fun k => (dot_noughts _ n).2]
    simp
theorem out_noughts {n : Nat} {xs : List Int} : AllZ (outN (noughts n) xs) ∧ outB (noughts n) xs = false := by
  unfold outN outB
  constructor
  · split
    · refine allZ_of fun p hp => ?_
      rw [gridK_length] at hp
      have hc : 0 < xs.length := by
        rcases Nat.eq_zero_or_pos xs.length with e | e
        · rw [e, Nat.mul_zero] at hp; omega
        · exact e
      have g1 : p / xs.length < (noughts n).length := Nat.div_lt_of_lt_mul (by rw [Nat.mul_comm]; exact hp)
      have g2 : p % xs.length < xs.length := Nat.mod_lt _ hc
      have g3 : p / xs.length * xs.length + p % xs.length = p := by rw [Nat.mul_comm]; exact Nat.div_add_mod p xs.length
      rw [← g3, gridK_get _ _ _ _ _ g1 g2, noughts_get]
      exact (zero_mul_ok _).1
    · exact allZ_nil
  · rw [gridB_none fun i j => by rw [noughts_get]; exact (zero_mul_ok _).2]
    simp
theorem allZ_noughts (n : Nat) : AllZ (noughts n) := noughts_get n
/-- Back with nought comes to nought. -/
theorem bw_noughts (k i o : Int) (ps xs : List Int) (n : Nat) (ho : o = n) : AllZ (bwN k i o ps xs (noughts n)) ∧ AllZ (bwG k i o ps xs (noughts n)) ∧ bwB k i o ps xs (noughts n) = false := by
  subst ho
  cases h : bwOk k i n ps xs (noughts n) with
  | false =>
    obtain ⟨a, b, c⟩ := bw_no h
    rw [a, b, c]
    exact ⟨allZ_nil, allZ_nil, rfl⟩
  | true =>
    have hh := h
    unfold bwOk fwOk at hh
    simp only [Bool.and_eq_true, decide_eq_true_eq] at hh
    obtain ⟨m, _, rfl, _⟩ := opOkB_has hh.1.1.1.1
    have z1 := mb_noughts (m := m) (n := n) (ps := ps)
    have z2 := out_noughts (n := n) (xs := xs)
    have z3 : addN 0 0 = 0 ∧ addB 0 0 = false := by decide
    unfold bwN bwG bwB
    rw [h, if_pos rfl, if_pos rfl, z1.2, z2.2]
    refine ⟨?_, ?_, ?_⟩
    · split
      · exact z1.1
      · split
        · exact allZ_noughts n
        · split
          · exact allZ_rowP fun j => by
              rw [noughts_get]
              rcases maskN_cases (xs.getD j 0) 0 with ⟨_, e⟩ | ⟨_, e⟩ <;> exact e
          · split
            · unfold scaleN
              split
              · exact allZ_rowP fun j => by rw [noughts_get]; exact (mul_zero_ok _).1
              · exact allZ_nil
            · exact allZ_rowP fun j => by rw [noughts_get, z1.1 j]; exact z3.1
    · split
      · exact z2.1
      · split
        · exact allZ_noughts n
        · split
          · refine allZ_of fun j hj => ?_
            obtain rfl : j = 0 := by simpa using hj
            show dotN (noughts n) xs = 0
            rw [(dot_comm xs (noughts n)).1]
            exact (dot_noughts xs n).1
          · exact allZ_nil
    · have f1 : flagP addB (noughts n) (mbN n m ps (noughts n)) = false := by
        unfold flagP
        rw [flagK_none' fun j => by rw [noughts_get, z1.1 j]; exact z3.2]
        simp
      have f2 : scaleB (ps.getD 0 0) (noughts n) = false := by
        unfold scaleB flagP
        rw [flagK_none' fun j => by rw [noughts_get]; exact (mul_zero_ok _).2]
        simp
      have f3 : dotB (noughts n) xs = false := by rw [(dot_comm xs (noughts n)).2]; exact (dot_noughts xs n).2
      rw [f1, f2, f3]
      simp
end Go.Proofs.Ytkmcfbopilieeaa

end

/-! YtkmcfbopilieeaaModM -/
section

namespace Go.Proofs.Ytkmcfbopilieeaa
open Go.RowKit
set_option linter.unusedVariables false

def opAt (m : List dOp) (j : Nat) : dOp := m.getD j (0, 0, 0, [])
theorem opAt_get {m : List dOp} {j : Nat} {x : dOp} (h : m[j]? = some x) : opAt m j = x := by
  unfold opAt
  rw [List.getD_eq_getElem?_getD, h]
  rfl
/-- Is an operation right? -/
def dOpOk (x : dOp) : Bool := opOkB x.1 x.2.1 x.2.2.1 x.2.2.2
/-- Is the one at a place right, and fits it behind the one ahead? -/
def okAt (m : List dOp) (j : Nat) : Bool := dOpOk (opAt m j) && (decide (j = 0) || decide ((opAt m j).2.1 = (opAt m (j - 1)).2.2.1))
def modelOkB (m : List dOp) : Bool := (List.range m.length).all (okAt m) && inB 1 8 (m.length : Int)
theorem range_all {p : Nat → Bool} {n : Nat} (h : ∀ j, j < n → p j = true) : (List.range n).all p = true := List.all_eq_true.2 fun j hj => h j (List.mem_range.1 hj)
theorem range_some {p : Nat → Bool} {n k : Nat} (hk : k < n) (h : p k = false) : (List.range n).all p = false := List.all_eq_false.2 ⟨k, List.mem_range.2 hk, by rw [h]; decide⟩
theorem modelOk_no {m : List dOp} {k : Nat} (hk : k < m.length) (h : okAt m k = false) : modelOkB m = false := by
  unfold modelOkB
  rw [range_some hk h]
  rfl
theorem modelOk_all {m : List dOp} (h : ∀ j, j < m.length → okAt m j = true) : modelOkB m = inB 1 8 (m.length : Int) := by
  unfold modelOkB
  rw [range_all h]
  rfl
theorem okAt_bad {m : List dOp} {k : Nat} {x : dOp} (hx : m[k]? = some x) (h : dOpOk x = false) : okAt m k = false := by
  unfold okAt
  rw [opAt_get hx, h]
  rfl
theorem okAt_zero {m : List dOp} {x : dOp} (hx : m[0]? = some x) (h : dOpOk x = true) : okAt m 0 = true := by
  unfold okAt
  rw [opAt_get hx, h]
  rfl
theorem okAt_next {m : List dOp} {k j : Nat} {x y : dOp} (hx : m[k]? = some x) (hy : m[j]? = some y) (hk : k = j + 1) (h : dOpOk x = true) : okAt m k = decide (x.2.1 = y.2.2.1) := by
  subst hk
  unfold okAt
  rw [opAt_get hx, Nat.add_sub_cancel, opAt_get hy, h]
  simp
theorem modelOk_has {m : List dOp} (h : modelOkB m = true) : (∀ j, j < m.length → okAt m j = true) ∧ 1 ≤ m.length ∧ m.length ≤ 8 := by
  unfold modelOkB at h
  simp only [Bool.and_eq_true, List.all_eq_true, List.mem_range] at h
  have := inB_has h.2
  exact ⟨h.1, by omega, by omega⟩
def inOfN (m : List dOp) : Int := if modelOkB m then (opAt m 0).2.1 else 0
def outOfN (m : List dOp) : Int := if modelOkB m then (opAt m (m.length - 1)).2.2.1 else 0
def wordsN (m : List dOp) : Int := if modelOkB m then (Shape.sum (fun (x : dOp) => x.2.2.2.length) m : Nat) else 0
/-- Does a pair fit? -/
def pairOkB (i o : Int) (p : dPair) : Bool := vecOkB p.1 && vecOkB p.2 && decide ((p.1.length : Int) = i) && decide ((p.2.length : Int) = o)
def batchOkB (m : List dOp) (b : List dPair) : Bool := modelOkB m && inB 1 5 (b.length : Int) && b.all (pairOkB (inOfN m) (outOfN m))
def sameRowsB (a b : List dRow) : Bool := decide (a = b)
end Go.Proofs.Ytkmcfbopilieeaa

end

/-! YtkmcfbopilieeaaCutM -/
section

namespace Go.Proofs.Ytkmcfbopilieeaa
open Go.RowKit
set_option linter.unusedVariables false

/-! ### Right cuts -/
def prevC (l : List Int) (j : Nat) : Int := if j = 0 then 0 else l.getD (j - 1) 0
/-- Rises the cut at a place, and is it below the end? -/
def cutAt (n : Nat) (l : List Int) (j : Nat) : Bool := decide (prevC l j < l.getD j 0) && decide (l.getD j 0 < (n : Int))
def cutsB (n : Nat) (l : List Int) : Bool := (List.range l.length).all (cutAt n l)
def cutsOkB (m : List dOp) (l : List Int) : Bool := modelOkB m && cutsB m.length l
theorem cutAt_has {n : Nat} {l : List Int} {j : Nat} (h : cutAt n l j = true) : prevC l j < l.getD j 0 ∧ l.getD j 0 < (n : Int) := by
  unfold cutAt at h
  simpa using h
theorem cutAt_yes {n : Nat} {l : List Int} {j : Nat} (h1 : prevC l j < l.getD j 0) (h2 : l.getD j 0 < (n : Int)) : cutAt n l j = true := by
  unfold cutAt
  rw [decide_eq_true h1, decide_eq_true h2]
  rfl
theorem cutAt_low {n : Nat} {l : List Int} {j : Nat} (h : l.getD j 0 ≤ prevC l j) : cutAt n l j = false := by
  unfold cutAt
  rw [decide_eq_false (by omega)]
  rfl
theorem cutAt_high {n : Nat} {l : List Int} {j : Nat} (h : (n : Int) ≤ l.getD j 0) : cutAt n l j = false := by
  unfold cutAt
  rw [decide_eq_false (p := l.getD j 0 < (n : Int)) (by omega), Bool.and_false]
theorem prevC_zero (l : List Int) : prevC l 0 = 0 := rfl
theorem prevC_succ (l : List Int) (j : Nat) : prevC l (j + 1) = l.getD j 0 := by
  unfold prevC
  rw [if_neg (by omega), Nat.add_sub_cancel]
theorem cuts_rise {n : Nat} {l : List Int} {k : Nat} (h : ∀ j, j < k → cutAt n l j = true) : ∀ j, j ≤ k → (j : Int) ≤ prevC l j
  | 0, _ => by rw [prevC_zero]; omega
  | j + 1, hj => by
    have h1 := cuts_rise h j (by omega)
    have h2 := (cutAt_has (h j (by omega))).1
    rw [prevC_succ]
    omega
theorem cutsB_no {n : Nat} {l : List Int} {k : Nat} (hk : k < l.length) (h : cutAt n l k = false) : cutsB n l = false := range_some hk h
theorem cutsB_all {n : Nat} {l : List Int} (h : ∀ j, j < l.length → cutAt n l j = true) : cutsB n l = true := range_all h
theorem cutsB_has {n : Nat} {l : List Int} (h : cutsB n l = true) : ∀ j, j < l.length → cutAt n l j = true := fun j hj => List.all_eq_true.1 h j (List.mem_range.2 hj)
theorem cutsOk_l {m : List dOp} {l : List Int} (h : modelOkB m = false) : cutsOkB m l = false := by unfold cutsOkB; rw [h]; rfl
theorem cutsOk_r {m : List dOp} {l : List Int} (h : cutsB m.length l = false) : cutsOkB m l = false := by unfold cutsOkB; rw [h, Bool.and_false]
theorem cutsOk_has {m : List dOp} {l : List Int} (h : cutsOkB m l = true) : modelOkB m = true ∧ 1 ≤ m.length ∧ m.length ≤ 8 ∧ (∀ j, j < l.length → cutAt m.length l j = true) ∧ l.length < m.length := by
  unfold cutsOkB at h
  simp only [Bool.and_eq_true] at h
  have hc := cutsB_has h.2
  obtain ⟨-, h1, h2⟩ := modelOk_has h.1
  refine ⟨h.1, h1, h2, hc, ?_⟩
  by_cases h0 : l.length = 0
  · omega
  · have h3 := cuts_rise hc l.length (Nat.le_refl _)
    have h4 := (cutAt_has (hc (l.length - 1) (by omega))).2
    have h5 : prevC l l.length = l.getD (l.length - 1) 0 := by unfold prevC; rw [if_neg h0]
    omega
/-- Where a stage begins: the cut ahead of it, or 0. -/
theorem prevC_le {m : List dOp} {l : List Int} (h : cutsOkB m l = true) (j : Nat) (hj : j ≤ l.length) : 0 ≤ prevC l j ∧ prevC l j < (m.length : Int) := by
  obtain ⟨-, h1, -, hc, -⟩ := cutsOk_has h
  have h2 := cuts_rise (k := l.length) hc j hj
  refine ⟨by omega, ?_⟩
  cases j with
  | zero => rw [prevC_zero]; omega
  | succ j =>
    rw [prevC_succ]
    exact (cutAt_has (hc j (by omega))).2
/-! ### Stages -/
/-- Where a stage ends. -/
def endC (n : Nat) (l : List Int) (j : Nat) : Int := if j < l.length then l.getD j 0 else (n : Int)
def stageB (m : List dOp) (l : List Int) (s : Int) : Bool := cutsOkB m l && inB 0 (l.length : Int) s
def fromC (m : List dOp) (l : List Int) (s : Int) : Int := if stageB m l s then prevC l s.toNat else 0
def toC (m : List dOp) (l : List Int) (s : Int) : Int := if stageB m l s then endC m.length l s.toNat else 0
theorem stageB_has {m : List dOp} {l : List Int} {s : Int} (h : stageB m l s = true) : cutsOkB m l = true ∧ ∃ j : Nat, s = j ∧ j ≤ l.length := by
  unfold stageB at h
  simp only [Bool.and_eq_true] at h
  have := inB_has h.2
  exact ⟨h.1, s.toNat, by omega, by omega⟩
theorem stageB_yes {m : List dOp} {l : List Int} {j : Nat} (h : cutsOkB m l = true) (hj : j ≤ l.length) : stageB m l (j : Int) = true := by
  unfold stageB
  rw [h, inB_yes (by omega) (by omega)]
  rfl
theorem endC_in {m : List dOp} {l : List Int} (h : cutsOkB m l = true) (j : Nat) (hj : j ≤ l.length) : prevC l j < endC m.length l j ∧ endC m.length l j ≤ (m.length : Int) := by
  obtain ⟨-, -, -, hc, -⟩ := cutsOk_has h
  unfold endC
  by_cases hl : j < l.length
  · rw [if_pos hl]
    have := cutAt_has (hc j hl)
    omega
  · rw [if_neg hl]
    have := (prevC_le h j hj).2
    omega
/-- A stage's range lies in the model. -/
theorem range_in (m : List dOp) (l : List Int) (s : Int) : ∃ f t : Nat, fromC m l s = f ∧ toC m l s = t ∧ f ≤ t ∧ t ≤ m.length := by
  unfold fromC toC
  cases h : stageB m l s with
  | false => exact ⟨0, 0, rfl, rfl, Nat.le_refl _, Nat.zero_le _⟩
  | true =>
    obtain ⟨hc, j, rfl, hj⟩ := stageB_has h
    have h1 := prevC_le hc j hj
    have h2 := endC_in hc j hj
    simp only [if_true, Int.toNat_natCast]
    exact ⟨(prevC l j).toNat, (endC m.length l j).toNat, by omega, by omega, by omega, by omega⟩
/-! ### What stages cost -/
def opC (x : dOp) : Int := opCostN x.1 x.2.1 x.2.2.1 x.2.2.2
theorem opC_in (x : dOp) : 0 ≤ opC x ∧ opC x ≤ 36 := by
  unfold opC opCostN
  split
  · rename_i h
    obtain ⟨a, b, ea, eb, ha, hb, -⟩ := opOkB_has h
    rw [ea, eb]
    split
    · have h1 : a * b ≤ 6 * 6 := Nat.mul_le_mul ha.2 hb.2
      have h2 : (a : Int) * (b : Int) = ((a * b : Nat) : Int) := by push_cast; rfl
      rw [h2]
      omega
    · split <;> omega
  · omega
/-- The cost of all ahead of a place. -/
def costTo (m : List dOp) : Nat → Int
  | 0 => 0
  | k + 1 => costTo m k + opC (opAt m k)
theorem costTo_in (m : List dOp) : ∀ k, 0 ≤ costTo m k ∧ costTo m k ≤ 36 * (k : Int)
  | 0 => by simp [costTo]
  | k + 1 => by
    have h1 := costTo_in m k
    have h2 := opC_in (opAt m k)
    unfold costTo
    omega
theorem costTo_le (m : List dOp) {a b : Nat} (h : a ≤ b) : costTo m a ≤ costTo m b := by
  induction b with
  | zero => obtain rfl : a = 0 := by omega
            exact Int.le_refl _
  | succ b ih =>
    by_cases e : a = b + 1
    · rw [e]; exact Int.le_refl _
    · have h1 := ih (by omega)
      have h2 := opC_in (opAt m b)
      show costTo m a ≤ costTo m b + opC (opAt m b)
      omega
def costC (m : List dOp) (l : List Int) (s : Int) : Int := costTo m (toC m l s).toNat - costTo m (fromC m l s).toNat
theorem costC_in (m : List dOp) (l : List Int) (s : Int) : 0 ≤ costC m l s ∧ costC m l s ≤ 288 := by
  unfold costC
  obtain ⟨f, t, e1, e2, h1, h2⟩ := range_in m l s
  rw [e1, e2, Int.toNat_natCast, Int.toNat_natCast]
  have h3 := costTo_le m h1
  have h4 := costTo_in m f
  have h5 := costTo_in m t
  cases h : stageB m l s with
  | false =>
    have e3 : toC m l s = 0 := by unfold toC; rw [h]; rfl
    obtain rfl : t = 0 := by omega
    obtain rfl : f = 0 := by omega
    omega
  | true =>
    obtain ⟨-, -, h8, -⟩ := cutsOk_has (stageB_has h).1
    omega
/-- The greatest cost of the first k stages. -/
def maxTo (m : List dOp) (l : List Int) : Nat → Int
  | 0 => 0
  | k + 1 => max (maxTo m l k) (costC m l (k : Int))
def maxC (m : List dOp) (l : List Int) : Int := if cutsOkB m l then maxTo m l (l.length + 1) else 0
theorem maxTo_in (m : List dOp) (l : List Int) : ∀ k, 0 ≤ maxTo m l k ∧ maxTo m l k ≤ 288
  | 0 => by simp [maxTo]
  | k + 1 => by
    have h1 := maxTo_in m l k
    have h2 := costC_in m l (k : Int)
    unfold maxTo
    omega
theorem maxC_in (m : List dOp) (l : List Int) : 0 ≤ maxC m l ∧ maxC m l ≤ 288 := by
  unfold maxC
  split
  · exact maxTo_in m l _
  · omega
theorem maxTo_ge (m : List dOp) (l : List Int) {j k : Nat} (h : j < k) : costC m l (j : Int) ≤ maxTo m l k := by
  induction k with
  | zero => omega
  | succ k ih =>
    unfold maxTo
    by_cases e : j = k
    · subst e; omega
    · have := ih (by omega); omega
theorem maxC_yes {m : List dOp} {l : List Int} (h : cutsOkB m l = true) : maxC m l = maxTo m l (l.length + 1) := by unfold maxC; rw [if_pos h]
theorem maxC_no {m : List dOp} {l : List Int} (h : cutsOkB m l = false) : maxC m l = 0 := by unfold maxC; rw [if_neg (by rw [h]; decide)]
/-! ### All ways -/
/-- The ways to cut so many operations c times, no cut ahead of lo. -/
def waysFrom (n : Nat) : Nat → Nat → List (List Int)
  | 0, _ => [[]]
  | c + 1, lo => ((List.range n).filter fun x => decide (lo ≤ x)).flatMap fun x => (waysFrom n c (x + 1)).map fun l => (x : Int) :: l
/-- All ways to cut n operations in k stages. -/
def ways (n k : Nat) : List (List Int) := waysFrom n (k - 1) 1
def stuckB (n : Nat) (l : List Int) (j : Nat) : Bool := !decide (l.getD j 0 + ((l.length - j : Nat) : Int) < (n : Int))
/-- The next way is made of one at a place. -/
def nextAt (l : List Int) (i : Nat) : List Int := mapK (fun j => if j < i then l.getD j 0 else l.getD i 0 + 1 + ((j - i : Nat) : Int)) l.length
def firstW (c : Nat) : List Int := mapK (fun j => 1 + (j : Int)) c
/-- Follows the one on the other? -/
def stepWayB (n : Nat) (l l' : List Int) : Bool := (List.range l.length).any fun i => !stuckB n l i && ((List.range l.length).all fun j => decide (j ≤ i) || stuckB n l j) && decide (l' = nextAt l i)
def lastWayB (n : Nat) (l : List Int) : Bool := (List.range l.length).all (stuckB n l)
def chainWayB (n : Nat) : List (List Int) → Bool
  | [] => false
  | [l] => lastWayB n l
  | l :: l' :: r => stepWayB n l l' && chainWayB n (l' :: r)
/-- All that is asked of the ways, checked one by one. -/
def waysB (n k : Nat) : Bool := chainWayB n (ways n k) && decide ((ways n k)[0]? = some (firstW (k - 1))) && (ways n k).all (fun l => decide (l.length = k - 1) && cutsB n l) && decide ((ways n k).length ≤ 35) && decide (1 ≤ (ways n k).length)
theorem ways_checked : ((List.range 9).all fun n => (List.range 9).all fun k => !(decide (1 ≤ k) && decide (k ≤ n)) || waysB n k) = true := by decide +kernel
theorem waysB_in {n k : Nat} (hk : 1 ≤ k) (hn : k ≤ n) (h8 : n ≤ 8) : waysB n k = true := by
  have h1 := List.all_eq_true.1 ways_checked n (List.mem_range.2 (by omega))
  have h2 := List.all_eq_true.1 h1 k (List.mem_range.2 (by omega))
  rw [decide_eq_true hk, decide_eq_true hn] at h2
  simpa using h2
theorem chain_step {n : Nat} : ∀ {L : List (List Int)} {p : Nat} {l l' : List Int}, chainWayB n L = true → L[p]? = some l → L[p + 1]? = some l' → stepWayB n l l' = true
  | [], _, _, _, h, _, _ => by cases h
  | [_], p, _, _, _, _, h2 => by simp at h2
  | a :: b :: r, 0, _, _, h, h1, h2 => by
    simp only [chainWayB, Bool.and_eq_true] at h
    simp only [List.getElem?_cons_zero, List.getElem?_cons_succ, Option.some.injEq] at h1 h2
    subst h1 h2
    exact h.1
  | a :: b :: r, p + 1, _, _, h, h1, h2 => by
    simp only [chainWayB, Bool.and_eq_true] at h
    rw [List.getElem?_cons_succ] at h1 h2
    exact chain_step h.2 h1 h2
theorem chain_last {n : Nat} : ∀ {L : List (List Int)} {p : Nat} {l : List Int}, chainWayB n L = true → L[p]? = some l → L.length = p + 1 → lastWayB n l = true
  | [], _, _, h, _, _ => by cases h
  | [a], 0, _, h, h1, _ => by
    simp only [List.getElem?_cons_zero, Option.some.injEq] at h1
    subst h1
    exact h
  | [_], p + 1, _, _, h1, _ => by simp at h1
  | a :: b :: r, 0, _, _, _, h2 => by simp at h2
  | a :: b :: r, p + 1, _, h, h1, h2 => by
    simp only [chainWayB, Bool.and_eq_true] at h
    rw [List.getElem?_cons_succ] at h1
    exact chain_last h.2 h1 (by simpa using h2)
structure WaysAt (n k : Nat) : Prop where
  first : (ways n k)[0]? = some (firstW (k - 1))
  len : ∀ (p : Nat) (l : List Int), (ways n k)[p]? = some l → l.length = k - 1 ∧ cutsB n l = true
  step : ∀ (p : Nat) (l l' : List Int), (ways n k)[p]? = some l → (ways n k)[p + 1]? = some l' → ∃ i, i < k - 1 ∧ stuckB n l i = false ∧ (∀ j, i < j → j < k - 1 → stuckB n l j = true) ∧ l' = nextAt l i
  last : ∀ (p : Nat) (l : List Int), (ways n k)[p]? = some l → (ways n k).length = p + 1 → ∀ j, j < k - 1 → stuckB n l j = true
  few : (ways n k).length ≤ 35
  some : 1 ≤ (ways n k).length
theorem ways_at {n k : Nat} (hk : 1 ≤ k) (hn : k ≤ n) (h8 : n ≤ 8) : WaysAt n k := by
  have h := waysB_in hk hn h8
  unfold waysB at h
  simp only [Bool.and_eq_true, decide_eq_true_eq, List.all_eq_true] at h
  obtain ⟨⟨⟨⟨h1, h2⟩, h3⟩, h4⟩, h5⟩ := h
  have hlen : ∀ (p : Nat) (l : List Int), (ways n k)[p]? = .some l → l.length = k - 1 ∧ cutsB n l = true := fun p l hl => h3 l (List.mem_of_getElem? hl)
  refine ⟨h2, hlen, fun p l l' hl hl' => ?_, fun p l hl he j hj => ?_, h4, h5⟩
  · have hs := chain_step h1 hl hl'
    unfold stepWayB at hs
    simp only [List.any_eq_true, List.mem_range, Bool.and_eq_true, Bool.not_eq_true', List.all_eq_true, Bool.or_eq_true, decide_eq_true_eq] at hs
    obtain ⟨i, hi, ⟨s1, s2⟩, s3⟩ := hs
    have e := (hlen p l hl).1
    refine ⟨i, by omega, s1, fun j hj hjk => ?_, s3⟩
    exact (s2 j (by omega)).resolve_left (by omega)
  · have hs := chain_last h1 hl he
    unfold lastWayB at hs
    have e := (hlen p l hl).1
    exact List.all_eq_true.1 hs j (List.mem_range.2 (by omega))
/-- Ways rise: each has a greater rank than the one ahead. -/
def rankW (l : List Int) : Nat := l.foldl (fun a x => a * 9 + x.toNat) 0
def rankedB : List (List Int) → Bool
  | [] => true
  | [l] => decide (rankW l < 5000000)
  | l :: l' :: r => decide (rankW l < rankW l') && rankedB (l' :: r)
theorem ways_ranked : ((List.range 9).all fun n => (List.range 9).all fun k => !(decide (1 ≤ k) && decide (k ≤ n)) || rankedB (ways n k)) = true := by decide +kernel
theorem ranked_in {n k : Nat} (hk : 1 ≤ k) (hn : k ≤ n) (h8 : n ≤ 8) : rankedB (ways n k) = true := by
  have h1 := List.all_eq_true.1 ways_ranked n (List.mem_range.2 (by omega))
  have h2 := List.all_eq_true.1 h1 k (List.mem_range.2 (by omega))
  rw [decide_eq_true hk, decide_eq_true hn] at h2
  simpa using h2
theorem ranked_step : ∀ {L : List (List Int)} {p : Nat} {l l' : List Int}, rankedB L = true → L[p]? = some l → L[p + 1]? = some l' → rankW l < rankW l'
  | [], _, _, _, _, h1, _ => by simp at h1
  | [_], p, _, _, _, _, h2 => by simp at h2
  | a :: b :: r, 0, _, _, h, h1, h2 => by
    simp only [rankedB, Bool.and_eq_true, decide_eq_true_eq] at h
    simp only [List.getElem?_cons_zero, List.getElem?_cons_succ, Option.some.injEq] at h1 h2
    subst h1 h2
    exact h.1
  | a :: b :: r, p + 1, _, _, h, h1, h2 => by
    simp only [rankedB, Bool.and_eq_true, decide_eq_true_eq] at h
    rw [List.getElem?_cons_succ] at h1 h2
    exact ranked_step h.2 h1 h2
theorem ranked_top : ∀ {L : List (List Int)} {p : Nat} {l : List Int}, rankedB L = true → L[p]? = some l → rankW l < 5000000
  | [], _, _, _, h1 => by simp at h1
  | [a], 0, _, h, h1 => by
    simp only [rankedB, decide_eq_true_eq] at h
    simp only [List.getElem?_cons_zero, Option.some.injEq] at h1
    subst h1
    exact h
  | [_], p + 1, _, _, h1 => by simp at h1
  | a :: b :: r, 0, _, h, h1 => by
    simp only [rankedB, Bool.and_eq_true, decide_eq_true_eq] at h
    simp only [List.getElem?_cons_zero, Option.some.injEq] at h1
    subst h1
    have := ranked_top (p := 0) h.2 rfl
    omega
  | a :: b :: r, p + 1, _, h, h1 => by
    simp only [rankedB, Bool.and_eq_true, decide_eq_true_eq] at h
    rw [List.getElem?_cons_succ] at h1
    exact ranked_top h.2 h1
theorem stage_j {m : List dOp} {l : List Int} {j : Nat} (h : cutsOkB m l = true) (hj : j ≤ l.length) : fromC m l (j : Int) = prevC l j ∧ toC m l (j : Int) = endC m.length l j := by
  unfold fromC toC
  rw [stageB_yes h hj, Int.toNat_natCast]
  exact ⟨rfl, rfl⟩
theorem stage_no {m : List dOp} {l : List Int} {s : Int} (h : stageB m l s = false) : fromC m l s = 0 ∧ toC m l s = 0 := by
  unfold fromC toC
  rw [h]
  exact ⟨rfl, rfl⟩
theorem stageB_l {m : List dOp} {l : List Int} {s : Int} (h : cutsOkB m l = false) : stageB m l s = false := by unfold stageB; rw [h]; rfl
theorem stageB_r {m : List dOp} {l : List Int} {s : Int} (h : inB 0 (l.length : Int) s = false) : stageB m l s = false := by unfold stageB; rw [h, Bool.and_false]
theorem prevC_pos {l : List Int} {i j : Nat} (h : j = i + 1) : prevC l j = l.getD i 0 := by subst h; exact prevC_succ l i
theorem endC_lt {n : Nat} {l : List Int} {j : Nat} (h : j < l.length) : endC n l j = l.getD j 0 := if_pos h
theorem endC_ge {n : Nat} {l : List Int} {j : Nat} (h : ¬ j < l.length) : endC n l j = (n : Int) := if_neg h
theorem fill_model {m : List dOp} {k : Nat} {x : dOp} (hx : m[k]? = some x) : costTo m (k + 1) = costTo m k + opC x := by
  show costTo m k + opC (opAt m k) = _
  rw [opAt_get hx]
theorem maxTo_succ (m : List dOp) (l : List Int) (k : Nat) : maxTo m l (k + 1) = max (maxTo m l k) (costC m l (k : Int)) := rfl
end Go.Proofs.Ytkmcfbopilieeaa

end
