/-
  Right plans: by where each instruction stands, and by how many there are ahead of it. Of no program.
-/
import Derived.Test.YtikjhpljaanakaaPlanP
namespace Go.Proofs.Ytikjhpljaanakaa
set_option linter.unusedVariables false

/-! ### Where an instruction stands -/
def occG (g : Nat → Int × Int) (x : Int × Int) : Nat → Nat
  | 0 => 0
  | p + 1 => occG g x p + if g p = x then 1 else 0
def posG (g : Nat → Int × Int) (x : Int × Int) : Nat → Int
  | 0 => -1
  | p + 1 => if g p = x then (p : Int) else posG g x p
def placeG (g : Nat → Int × Int) (x : Int × Int) (N : Nat) : Int := if occG g x N = 1 then posG g x N else -1
theorem occ_zero {g : Nat → Int × Int} {x : Int × Int} : ∀ {n : Nat}, (∀ q, q < n → g q ≠ x) → occG g x n = 0 ∧ posG g x n = -1
  | 0, _ => ⟨rfl, rfl⟩
  | n + 1, h => by
    obtain ⟨h1, h2⟩ := occ_zero (n := n) fun q hq => h q (by omega)
    have h3 := h n (by omega)
    simp only [occG, posG, if_neg h3, h1, h2]
    exact ⟨trivial, trivial⟩
theorem occ_zero' {g : Nat → Int × Int} {x : Int × Int} : ∀ {n : Nat}, occG g x n = 0 → ∀ q, q < n → g q ≠ x
  | 0, _ => fun q hq => absurd hq (Nat.not_lt_zero _)
  | n + 1, h => fun q hq => by
    rw [occG] at h
    have h1 : occG g x n = 0 := by omega
    by_cases e : q = n
    · subst e
      intro e2
      rw [if_pos e2] at h
      omega
    · exact occ_zero' h1 q (by omega)
theorem occ_mono {g : Nat → Int × Int} {x : Int × Int} {n m : Nat} (h : n ≤ m) : occG g x n ≤ occG g x m := by
  induction m with
  | zero => rw [Nat.le_zero.1 h]; exact Nat.le_refl _
  | succ m ih =>
    by_cases e : n = m + 1
    · rw [e]; exact Nat.le_refl _
    · rw [occG]
      have := ih (by omega)
      omega
theorem occ_one {g : Nat → Int × Int} {x : Int × Int} : ∀ {n : Nat}, occG g x n = 1 → ∃ p, p < n ∧ posG g x n = (p : Int) ∧ g p = x ∧ ∀ q, q < n → g q = x → q = p
  | 0, h => by simp [occG] at h
  | n + 1, h => by
    rw [occG] at h
    by_cases e : g n = x
    · rw [if_pos e] at h
      have h0 := occ_zero' (show occG g x n = 0 by omega)
      refine ⟨n, by omega, by rw [posG, if_pos e], e, fun q hq hx => ?_⟩
      by_cases e2 : q = n
      · exact e2
      · exact absurd hx (h0 q (by omega))
    · rw [if_neg e] at h
      obtain ⟨p, h1, h2, h3, h4⟩ := occ_one (n := n) (by omega)
      refine ⟨p, by omega, by rw [posG, if_neg e]; exact h2, h3, fun q hq hx => ?_⟩
      by_cases e2 : q = n
      · subst e2; exact absurd hx e
      · exact h4 q (by omega) hx
theorem place_has {g : Nat → Int × Int} {x : Int × Int} {N : Nat} (h : 0 ≤ placeG g x N) : ∃ p, p < N ∧ placeG g x N = (p : Int) ∧ g p = x ∧ ∀ q, q < N → g q = x → q = p := by
  unfold placeG at h ⊢
  by_cases e : occG g x N = 1
  · rw [if_pos e]
    exact occ_one e
  · rw [if_neg e] at h
    omega
theorem occ_alone {g : Nat → Int × Int} {x : Int × Int} {p : Nat} (hx : g p = x) : ∀ {N : Nat}, p < N → (∀ q, q < N → g q = x → q = p) → occG g x N = 1 ∧ posG g x N = (p : Int)
  | 0, hp, _ => absurd hp (Nat.not_lt_zero _)
  | N + 1, hp, hu => by
    by_cases e : p = N
    · subst e
      have h0 := occ_zero (g := g) (x := x) (n := p) fun q hq hq2 => by have := hu q (by omega) hq2; omega
      simp only [occG, posG, if_pos hx, h0.1]
      exact ⟨trivial, trivial⟩
    · have h1 := occ_alone hx (N := N) (by omega) fun q hq => hu q (by omega)
      have h2 : ¬ g N = x := fun e2 => by have := hu N (by omega) e2; omega
      simp only [occG, posG, if_neg h2, h1.1, h1.2]
      exact ⟨trivial, trivial⟩
theorem place_of {g : Nat → Int × Int} {x : Int × Int} {p N : Nat} (hx : g p = x) (hp : p < N) (hu : ∀ q, q < N → g q = x → q = p) : placeG g x N = (p : Int) := by
  obtain ⟨h1, h2⟩ := occ_alone hx hp hu
  unfold placeG
  rw [if_pos h1, h2]

/-! ### How many of a kind -/
def cntG (g : Nat → Int × Int) (k : Int) : Nat → Nat
  | 0 => 0
  | p + 1 => cntG g k p + if (g p).1 = k then 1 else 0
theorem cnt_step (g : Nat → Int × Int) (k : Int) (p : Nat) : cntG g k p ≤ cntG g k (p + 1) ∧ cntG g k (p + 1) ≤ cntG g k p + 1 := by
  rw [cntG]
  split <;> omega
theorem cnt_hit {g : Nat → Int × Int} {k : Int} {p : Nat} (h : (g p).1 = k) : cntG g k (p + 1) = cntG g k p + 1 := by rw [cntG, if_pos h]
theorem cnt_miss {g : Nat → Int × Int} {k : Int} {p : Nat} (h : ¬ (g p).1 = k) : cntG g k (p + 1) = cntG g k p := by rw [cntG, if_neg h]; rfl
theorem cnt_mono {g : Nat → Int × Int} {k : Int} {n m : Nat} (h : n ≤ m) : cntG g k n ≤ cntG g k m := by
  induction m with
  | zero => rw [Nat.le_zero.1 h]; exact Nat.le_refl _
  | succ m ih =>
    by_cases e : n = m + 1
    · rw [e]; exact Nat.le_refl _
    · have := ih (by omega)
      have := (cnt_step g k m).1
      omega
theorem cnt_le (g : Nat → Int × Int) (k : Int) : ∀ p, cntG g k p ≤ p
  | 0 => Nat.le_refl _
  | p + 1 => by have := cnt_le g k p; have := (cnt_step g k p).2; omega
/-- A count that comes above j passes j. -/
theorem cnt_at {g : Nat → Int × Int} {k : Int} {j : Nat} : ∀ {n : Nat}, j < cntG g k n → ∃ p, p < n ∧ (g p).1 = k ∧ cntG g k p = j
  | 0, h => absurd h (Nat.not_lt_zero _)
  | n + 1, h => by
    by_cases e : j < cntG g k n
    · obtain ⟨p, h1, h2⟩ := cnt_at e
      exact ⟨p, by omega, h2⟩
    · by_cases e2 : (g n).1 = k
      · rw [cnt_hit e2] at h
        exact ⟨n, by omega, e2, by omega⟩
      · rw [cnt_miss e2] at h
        omega

/-! ### The two ways to ask -/
structure Kinds (kk : Nat → Int) (K : Nat) : Prop where
  inj : ∀ a b, a < K → b < K → kk a = kk b → a = b
  ne : ∀ a, a < K → kk a ≠ 8
def prevG (g : Nat → Int × Int) (kk : Nat → Int) (M k p : Nat) : Nat := if k = 0 then M else cntG g (kk (k - 1)) p
/-- Each instruction is the next one of its kind, and its micro-batch is through the kind ahead. -/
def NextOk (g : Nat → Int × Int) (kk : Nat → Int) (K M p : Nat) : Prop := ∃ k, k < K ∧ g p = (kk k, (cntG g (kk k) p : Int)) ∧ cntG g (kk k) p < prevG g kk M k p
def ImplG (g : Nat → Int × Int) (kk : Nat → Int) (K M nb : Nat) : Prop := (∀ p, p < nb → NextOk g kk K M p) ∧ cntG g (kk (K - 1)) nb = M
def PlaceOk (g : Nat → Int × Int) (kk : Nat → Int) (N k j : Nat) : Prop :=
  0 ≤ placeG g (kk k, (j : Int)) N ∧ (0 < k → placeG g (kk (k - 1), (j : Int)) N < placeG g (kk k, (j : Int)) N) ∧ (0 < j → placeG g (kk k, ((j : Int) - 1)) N < placeG g (kk k, (j : Int)) N)
def SpecG (g : Nat → Int × Int) (kk : Nat → Int) (K M nb : Nat) : Prop := nb = M * K ∧ ∀ k, k < K → ∀ j, j < M → PlaceOk g kk (nb + 1) k j

theorem prev_mono {g : Nat → Int × Int} {kk : Nat → Int} {M k n m : Nat} (h : n ≤ m) : prevG g kk M k n ≤ prevG g kk M k m := by
  unfold prevG
  split
  · exact Nat.le_refl _
  · exact cnt_mono h
theorem impl_rise {g : Nat → Int × Int} {kk : Nat → Int} {K M nb : Nat} (hK : Kinds kk K) (h : ∀ p, p < nb → NextOk g kk K M p) : ∀ p, p ≤ nb → ∀ k, k < K → cntG g (kk k) p ≤ prevG g kk M k p
  | 0, _, k, _ => Nat.zero_le _
  | p + 1, hp, k, hk => by
    have ih := impl_rise hK h p (by omega) k hk
    have hm := prev_mono (g := g) (kk := kk) (M := M) (k := k) (show p ≤ p + 1 by omega)
    obtain ⟨k0, h0, h1, h2⟩ := h p (by omega)
    by_cases e : (g p).1 = kk k
    · rw [cnt_hit e]
      rw [h1] at e
      have := hK.inj k0 k h0 hk e
      subst this
      omega
    · rw [cnt_miss e]
      omega
theorem impl_full {g : Nat → Int × Int} {kk : Nat → Int} {K M nb : Nat} (hK : Kinds kk K) (h : ImplG g kk K M nb) : ∀ d k, k + d + 1 = K → cntG g (kk k) nb = M
  | 0, k, hk => by
    have e : k = K - 1 := by omega
    rw [e]
    exact h.2
  | d + 1, k, hk => by
    have ih := impl_full hK h d (k + 1) (by omega)
    have h1 := impl_rise hK h.1 nb (Nat.le_refl _) (k + 1) (by omega)
    have h2 : prevG g kk M (k + 1) nb = cntG g (kk k) nb := by unfold prevG; rw [if_neg (by omega), Nat.add_sub_cancel]
    -- from the first on none is above M
    have h3 : ∀ k, k < K → cntG g (kk k) nb ≤ M := fun k => by
      induction k with
      | zero =>
        intro h0
        have := impl_rise hK h.1 nb (Nat.le_refl _) 0 h0
        unfold prevG at this
        rwa [if_pos rfl] at this
      | succ k ihk =>
        intro hk
        have h4 := impl_rise hK h.1 nb (Nat.le_refl _) (k + 1) hk
        unfold prevG at h4
        rw [if_neg (by omega), Nat.add_sub_cancel] at h4
        have := ihk (by omega)
        omega
    have := h3 k (by omega)
    omega
/-- The sum of the counts of the first kinds. -/
def sumG (g : Nat → Int × Int) (kk : Nat → Int) (p : Nat) : Nat → Nat
  | 0 => 0
  | K + 1 => sumG g kk p K + cntG g (kk K) p
theorem sum_zeroG (g : Nat → Int × Int) (kk : Nat → Int) : ∀ K, sumG g kk 0 K = 0
  | 0 => rfl
  | K + 1 => by rw [sumG, sum_zeroG g kk K]; rfl
theorem sum_miss {g : Nat → Int × Int} {kk : Nat → Int} {p : Nat} : ∀ {K : Nat}, (∀ k, k < K → ¬ (g p).1 = kk k) → sumG g kk (p + 1) K = sumG g kk p K
  | 0, _ => rfl
  | K + 1, h => by rw [sumG, sumG, sum_miss fun k hk => h k (by omega), cnt_miss (h K (by omega))]
theorem sum_hit {g : Nat → Int × Int} {kk : Nat → Int} {p k0 : Nat} (h0 : (g p).1 = kk k0) : ∀ {K : Nat}, k0 < K → (∀ a b, a < K → b < K → kk a = kk b → a = b) → sumG g kk (p + 1) K = sumG g kk p K + 1
  | 0, h, _ => absurd h (Nat.not_lt_zero _)
  | K + 1, h, hi => by
    by_cases e : k0 = K
    · subst e
      rw [sumG, sumG, sum_miss fun k hk e => by have := hi k0 k (by omega) (by omega) (h0.symm.trans e); omega, cnt_hit h0]
      omega
    · rw [sumG, sumG, sum_hit h0 (K := K) (by omega) fun a b ha hb => hi a b (by omega) (by omega), cnt_miss fun e2 => e (hi k0 K (by omega) (by omega) (h0.symm.trans e2))]
      omega
theorem sum_const {g : Nat → Int × Int} {kk : Nat → Int} {p M : Nat} : ∀ {K : Nat}, (∀ k, k < K → cntG g (kk k) p = M) → sumG g kk p K = M * K
  | 0, _ => rfl
  | K + 1, h => by rw [sumG, sum_const fun k hk => h k (by omega), h K (by omega), Nat.mul_succ]
theorem impl_sum {g : Nat → Int × Int} {kk : Nat → Int} {K M nb : Nat} (hK : Kinds kk K) (h : ∀ p, p < nb → NextOk g kk K M p) : ∀ p, p ≤ nb → sumG g kk p K = p
  | 0, _ => sum_zeroG g kk K
  | p + 1, hp => by
    obtain ⟨k0, h0, h1, -⟩ := h p (by omega)
    rw [sum_hit (by rw [h1]) h0 hK.inj, impl_sum hK h p (by omega)]
theorem impl_spec {g : Nat → Int × Int} {kk : Nat → Int} {K M nb : Nat} (hK : Kinds kk K) (hl : g nb = (8, 0)) (h : ImplG g kk K M nb) : SpecG g kk K M nb := by
  have hf : ∀ k, k < K → cntG g (kk k) nb = M := fun k hk => impl_full hK h (K - 1 - k) k (by omega)
  have hnb : nb = M * K := by rw [← impl_sum hK h.1 nb (Nat.le_refl _), sum_const hf]
  -- where the j-th of a kind stands
  have hp : ∀ k, k < K → ∀ j, j < M → ∃ p, p < nb ∧ g p = (kk k, (j : Int)) ∧ cntG g (kk k) p = j ∧ placeG g (kk k, (j : Int)) (nb + 1) = (p : Int) := fun k hk j hj => by
    obtain ⟨p, h1, h2, h3⟩ := cnt_at (g := g) (k := kk k) (j := j) (n := nb) (by rw [hf k hk]; exact hj)
    have key : ∀ q, q < nb → (g q).1 = kk k → g q = (kk k, (cntG g (kk k) q : Int)) := fun q hq e => by
      obtain ⟨k0, h0, e1, -⟩ := h.1 q hq
      have : k0 = k := hK.inj k0 k h0 hk (by rw [e1] at e; exact e)
      rw [← this]
      exact e1
    have hg : g p = (kk k, (j : Int)) := by rw [key p h1 h2, h3]
    refine ⟨p, h1, hg, h3, place_of hg (by omega) fun q hq e => ?_⟩
    by_cases e2 : q = nb
    · subst e2
      rw [hl] at e
      exact absurd (congrArg Prod.fst e).symm (hK.ne k hk)
    · have hq1 : (g q).1 = kk k := by rw [e]
      have h5 := key q (by omega) hq1
      rw [e] at h5
      have h6 : cntG g (kk k) q = j := by
        have := congrArg Prod.snd h5
        simp only at this
        omega
      rcases Nat.lt_trichotomy p q with h7 | h7 | h7
      · have h8 := cnt_mono (g := g) (k := kk k) (show p + 1 ≤ q by omega)
        rw [cnt_hit h2] at h8
        omega
      · exact h7.symm
      · have h8 := cnt_mono (g := g) (k := kk k) (show q + 1 ≤ p by omega)
        rw [cnt_hit hq1] at h8
        omega
  refine ⟨hnb, fun k hk j hj => ?_⟩
  obtain ⟨p, h1, h2, h3, h4⟩ := hp k hk j hj
  refine ⟨by rw [h4]; omega, fun hk0 => ?_, fun hj0 => ?_⟩
  · obtain ⟨p', i1, i2, i3, i4⟩ := hp (k - 1) (by omega) j hj
    rw [h4, i4]
    obtain ⟨k0, e0, e1, e2⟩ := h.1 p h1
    have : k0 = k := hK.inj k0 k e0 hk (by rw [h2] at e1; exact (congrArg Prod.fst e1).symm)
    subst this
    unfold prevG at e2
    rw [if_neg (by omega), h3] at e2
    have : ¬ p ≤ p' := fun hle => by
      have := cnt_mono (g := g) (k := kk (k0 - 1)) hle
      omega
    omega
  · obtain ⟨p', i1, i2, i3, i4⟩ := hp k hk (j - 1) (by omega)
    rw [show ((j : Int) - 1) = ((j - 1 : Nat) : Int) by omega, h4, i4]
    have : ¬ p ≤ p' := fun hle => by
      have := cnt_mono (g := g) (k := kk k) hle
      omega
    omega

theorem nodup_le : ∀ (n : Nat) (l : List Nat), l.Nodup → (∀ x ∈ l, x < n) → l.length ≤ n
  | 0, l, _, h => by
    cases l with
    | nil => exact Nat.le_refl _
    | cons x xs => exact absurd (h x (by simp)) (Nat.not_lt_zero _)
  | n + 1, l, hd, h => by
    by_cases e : n ∈ l
    · have h1 := nodup_le n (l.erase n) (hd.erase n) fun x hx => by
        have h2 := (hd.mem_erase_iff).1 hx
        have h3 := h x h2.2
        have h4 := h2.1
        omega
      rw [List.length_erase_of_mem e] at h1
      omega
    · have := nodup_le n l hd fun x hx => by
        have h1 := h x hx
        have h2 : x ≠ n := fun e2 => e (e2 ▸ hx)
        omega
      omega
theorem spec_impl {g : Nat → Int × Int} {kk : Nat → Int} {K M nb : Nat} (hK : Kinds kk K) (hK0 : 0 < K) (hM : 0 < M) (hl : g nb = (8, 0)) (h : SpecG g kk K M nb) : ImplG g kk K M nb := by
  obtain ⟨hnb, hs⟩ := h
  have hp : ∀ k, k < K → ∀ j, j < M → ∃ p, p < nb ∧ placeG g (kk k, (j : Int)) (nb + 1) = (p : Int) ∧ g p = (kk k, (j : Int)) ∧ ∀ q, q < nb + 1 → g q = (kk k, (j : Int)) → q = p := fun k hk j hj => by
    obtain ⟨p, h1, h2, h3, h4⟩ := place_has (hs k hk j hj).1
    refine ⟨p, ?_, h2, h3, h4⟩
    have : p ≠ nb := fun e => by
      subst e
      rw [hl] at h3
      exact absurd (congrArg Prod.fst h3).symm (hK.ne k hk)
    omega
  -- the positions, as one row
  let f : Nat → Nat := fun t => (placeG g (kk (t / M), ((t % M : Nat) : Int)) (nb + 1)).toNat
  have hf : ∀ t, t < M * K → f t < nb ∧ g (f t) = (kk (t / M), ((t % M : Nat) : Int)) := fun t ht => by
    obtain ⟨p, h1, h2, h3, -⟩ := hp (t / M) (Nat.div_lt_of_lt_mul ht) (t % M) (Nat.mod_lt _ hM)
    have : f t = p := by show (placeG _ _ _).toNat = p; rw [h2]; simp
    rw [this]
    exact ⟨h1, h3⟩
  have hcov : ∀ q, q < nb → ∃ k, k < K ∧ ∃ j, j < M ∧ g q = (kk k, (j : Int)) := fun q hq => by
    by_cases e : ∃ t, t < M * K ∧ f t = q
    · obtain ⟨t, h1, h2⟩ := e
      exact ⟨t / M, Nat.div_lt_of_lt_mul h1, t % M, Nat.mod_lt _ hM, by rw [← h2]; exact (hf t h1).2⟩
    · exfalso
      have hd : (q :: (List.range (M * K)).map f).Nodup := by
        rw [List.nodup_cons]
        refine ⟨fun hm => ?_, ?_⟩
        · obtain ⟨t, h1, h2⟩ := List.mem_map.1 hm
          exact e ⟨t, List.mem_range.1 h1, h2⟩
        · rw [List.nodup_iff_pairwise_ne, List.pairwise_map]
          refine List.Pairwise.imp_of_mem (R := fun a b => a < b) ?_ List.pairwise_lt_range
          intro a b ha hb hab hfe
          have h1 := hf a (List.mem_range.1 ha)
          have h2 := hf b (List.mem_range.1 hb)
          rw [hfe] at h1
          have h3 := h1.2.symm.trans h2.2
          have h4 := hK.inj _ _ (Nat.div_lt_of_lt_mul (List.mem_range.1 ha)) (Nat.div_lt_of_lt_mul (List.mem_range.1 hb)) (congrArg Prod.fst h3)
          have h5 := congrArg Prod.snd h3
          simp only at h5
          have h6 := Nat.div_add_mod a M
          have h7 := Nat.div_add_mod b M
          rw [h4] at h6
          omega
      have := nodup_le nb _ hd fun x hx => by
        rcases List.mem_cons.1 hx with rfl | hx
        · exact hq
        · obtain ⟨t, h1, rfl⟩ := List.mem_map.1 hx
          exact (hf t (List.mem_range.1 h1)).1
      simp only [List.length_cons, List.length_map, List.length_range] at this
      omega
  -- of one kind they rise
  have hrise : ∀ k, k < K → ∀ j, j < M → ∀ i, i < j → placeG g (kk k, (i : Int)) (nb + 1) < placeG g (kk k, (j : Int)) (nb + 1) := fun k hk j => by
    induction j with
    | zero => intro _ i hi; exact absurd hi (Nat.not_lt_zero _)
    | succ j ih =>
      intro hj i hi
      have h1 := (hs k hk (j + 1) hj).2.2 (by omega)
      rw [show (((j + 1 : Nat) : Int) - 1) = (j : Int) by omega] at h1
      by_cases e : i = j
      · subst e; exact h1
      · have h2 := ih (by omega) i (by omega)
        omega
  have hC : ∀ q, q ≤ nb → ∀ k, k < K → cntG g (kk k) q ≤ M ∧ ∀ j, j < M → (cntG g (kk k) q ≤ j ↔ (q : Int) ≤ placeG g (kk k, (j : Int)) (nb + 1)) := fun q => by
    induction q with
    | zero =>
      intro _ k hk
      refine ⟨Nat.zero_le _, fun j hj => ⟨fun _ => ?_, fun _ => Nat.zero_le _⟩⟩
      exact (hs k hk j hj).1
    | succ q ih =>
      intro hq k hk
      obtain ⟨i1, i2⟩ := ih (by omega) k hk
      by_cases e : (g q).1 = kk k
      · obtain ⟨k', hk', j0, hj0, hg⟩ := hcov q (by omega)
        have : k' = k := hK.inj k' k hk' hk (by rw [hg] at e; exact e)
        subst this
        obtain ⟨p, p1, p2, p3, p4⟩ := hp k' hk j0 hj0
        have hqp := p4 q (by omega) hg
        subst hqp
        have c1 := (i2 j0 hj0).2 (by rw [p2]; omega)
        have c2 : j0 ≤ cntG g (kk k') q := by
          by_cases e0 : j0 = 0
          · omega
          · have r1 := hrise k' hk j0 hj0 (j0 - 1) (by omega)
            rw [p2] at r1
            have := fun hh => (i2 (j0 - 1) (by omega)).1 hh
            omega
        rw [cnt_hit e]
        refine ⟨by omega, fun j hj => ?_⟩
        constructor
        · intro hh
          have r1 := hrise k' hk j hj j0 (by omega)
          rw [p2] at r1
          omega
        · intro hh
          have : ¬ j ≤ j0 := fun hle => by
            by_cases e1 : j = j0
            · subst e1; rw [p2] at hh; omega
            · have r1 := hrise k' hk j0 hj0 j (by omega)
              rw [p2] at r1
              omega
          omega
      · rw [cnt_miss e]
        refine ⟨i1, fun j hj => ?_⟩
        obtain ⟨p, p1, p2, p3, p4⟩ := hp k hk j hj
        have hne : p ≠ q := fun e2 => e (by rw [← e2, p3])
        have := i2 j hj
        rw [p2] at this ⊢
        rw [this]
        omega
  refine ⟨fun q hq => ?_, ?_⟩
  · obtain ⟨k, hk, j0, hj0, hg⟩ := hcov q hq
    obtain ⟨p, p1, p2, p3, p4⟩ := hp k hk j0 hj0
    have hqp := p4 q (by omega) hg
    subst hqp
    obtain ⟨i1, i2⟩ := hC q (by omega) k hk
    have c1 := (i2 j0 hj0).2 (by rw [p2]; omega)
    have c2 : j0 ≤ cntG g (kk k) q := by
      by_cases e0 : j0 = 0
      · omega
      · have r1 := hrise k hk j0 hj0 (j0 - 1) (by omega)
        rw [p2] at r1
        have := fun hh => (i2 (j0 - 1) (by omega)).1 hh
        omega
    have hc : cntG g (kk k) q = j0 := by omega
    refine ⟨k, hk, by rw [hc]; exact hg, ?_⟩
    rw [hc]
    unfold prevG
    by_cases e0 : k = 0
    · rw [if_pos e0]; exact hj0
    · rw [if_neg e0]
      obtain ⟨-, i4⟩ := hC q (by omega) (k - 1) (by omega)
      have h5 := (hs k hk j0 hj0).2.1 (by omega)
      rw [p2] at h5
      have := fun hh => (i4 j0 hj0).1 hh
      omega
  · obtain ⟨i1, i2⟩ := hC nb (Nat.le_refl _) (K - 1) (by omega)
    obtain ⟨p, p1, p2, -⟩ := hp (K - 1) (by omega) (M - 1) (by omega)
    have := fun hh => (i2 (M - 1) (by omega)).1 hh
    rw [p2] at this
    omega
theorem impl_iff {g : Nat → Int × Int} {kk : Nat → Int} {K M nb : Nat} (hK : Kinds kk K) (hK0 : 0 < K) (hM : 0 < M) (hl : g nb = (8, 0)) : ImplG g kk K M nb ↔ SpecG g kk K M nb :=
  ⟨impl_spec hK hl, spec_impl hK hK0 hM hl⟩
end Go.Proofs.Ytikjhpljaanakaa
