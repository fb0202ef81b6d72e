/-
  What is drawn: numbers and texts.
-/
import Derived.Test.YthficfeiomddmaaDoorDraw
namespace Go.Proofs.YthficfeiomddmaaDoor
open Go.RowKit
set_option linter.unusedVariables false

/-- A number, small, at a limit, or any. -/
def numF (bs : List UInt8) (s : St) : Int × St :=
  if (belowF bs s 8).1 = 0 then (numTab.getD (belowF bs (belowF bs s 8).2 17).1.toNat 0, (belowF bs (belowF bs s 8).2 17).2)
  else if (belowF bs s 8).1 = 1 then
    ((belowF bs (belowF bs s 8).2 1000000000).1 * (belowF bs (belowF bs (belowF bs s 8).2 1000000000).2 1000000000).1, (belowF bs (belowF bs (belowF bs s 8).2 1000000000).2 1000000000).2)
  else if (belowF bs s 8).1 = 2 then (-(belowF bs (belowF bs s 8).2 100000).1, (belowF bs (belowF bs s 8).2 100000).2)
  else belowF bs (belowF bs s 8).2 70000

theorem numTab_range (k : Nat) : -9223372036854775808 ≤ numTab.getD k 0 ∧ numTab.getD k 0 ≤ 9223372036854775807 := by
  by_cases h : k < 17
  · have : k = 0 ∨ k = 1 ∨ k = 2 ∨ k = 3 ∨ k = 4 ∨ k = 5 ∨ k = 6 ∨ k = 7 ∨ k = 8 ∨ k = 9 ∨ k = 10 ∨ k = 11 ∨ k = 12 ∨ k = 13 ∨ k = 14 ∨ k = 15 ∨ k = 16 := by omega
    rcases this with rfl | rfl | rfl | rfl | rfl | rfl | rfl | rfl | rfl | rfl | rfl | rfl | rfl | rfl | rfl | rfl | rfl <;> decide
  · have e : numTab.getD k 0 = 0 := by
      have : numTab.length = 17 := rfl
      simp [List.getD, List.getElem?_eq_none (by omega : numTab.length ≤ k)]
    rw [e]; decide
theorem numF_range {bs : List UInt8} {s s' : St} {x : Int} (h : numF bs s = (x, s')) : -9223372036854775808 ≤ x ∧ x ≤ 9223372036854775807 := by
  rcases hk : belowF bs s 8 with ⟨k, s1⟩
  rw [numF, hk] at h
  simp only at h
  by_cases e0 : k = 0
  · rw [if_pos e0] at h
    simp only [Prod.mk.injEq] at h
    rw [← h.1]
    exact numTab_range _
  · rw [if_neg e0] at h
    by_cases e1 : k = 1
    · rw [if_pos e1] at h
      rcases hi : belowF bs s1 1000000000 with ⟨p, s2⟩
      rcases hj : belowF bs s2 1000000000 with ⟨q, s3⟩
      simp only [hi, hj, Prod.mk.injEq] at h
      obtain ⟨p0, p1⟩ := belowF_range hi (by omega)
      obtain ⟨q0, q1⟩ := belowF_range hj (by omega)
      have hm0 := Int.mul_nonneg p0 q0
      have hm1 : p * q ≤ 1000000000 * 1000000000 := Int.mul_le_mul (by omega) (by omega) q0 (by omega)
      rw [← h.1]
      omega
    · rw [if_neg e1] at h
      by_cases e2 : k = 2
      · rw [if_pos e2] at h
        rcases hi : belowF bs s1 100000 with ⟨p, s2⟩
        simp only [hi, Prod.mk.injEq] at h
        obtain ⟨p0, p1⟩ := belowF_range hi (by omega)
        omega
      · rw [if_neg e2] at h
        obtain ⟨p0, p1⟩ := belowF_range h (by omega)
        omega

theorem infoByte : (Tryd.prog.info? 5).map (fun i => (i.zero, i.size, i.bytes)) = some (some (.int .u8 0), 1, 1) := by kernel_rfl
def styleF (st b : Int) : Int := if st = 1 then b % 2 else if st = 2 then 97 + b % 4 else b
theorem styleF_range {st b : Int} (h0 : 0 ≤ b) (h1 : b ≤ 255) : 0 ≤ styleF st b ∧ styleF st b ≤ 255 := by
  unfold styleF
  split
  · omega
  · split
    · omega
    · omega
def textLoop (bs : List UInt8) (st : Int) : Nat → St → List UInt8 × St
  | 0, s => ([], s)
  | n + 1, s => (UInt8.ofNat (styleF st (byteF bs s).1).toNat :: (textLoop bs st n (byteF bs s).2).1, (textLoop bs st n (byteF bs s).2).2)
/-- Bytes, at most so many. -/
def textF (bs : List UInt8) (s : St) (most : Int) : List UInt8 × St :=
  textLoop bs (belowF bs s 4).1 (belowF bs (belowF bs s 4).2 (most + 1)).1.toNat (belowF bs (belowF bs s 4).2 (most + 1)).2
theorem textLoop_length (bs : List UInt8) (st : Int) (n : Nat) (s : St) : (textLoop bs st n s).1.length = n := by
  induction n generalizing s with
  | zero => rfl
  | succ n ih => simp [textLoop, ih]
theorem textF_length {bs : List UInt8} {s s' : St} {most : Int} {l : List UInt8} (h : textF bs s most = (l, s')) (hm : 0 ≤ most) : (l.length : Int) ≤ most := by
  rcases h1 : belowF bs s 4 with ⟨st, s1⟩
  rcases h2 : belowF bs s1 (most + 1) with ⟨n, s2⟩
  obtain ⟨n0, n1⟩ := belowF_range h2 (by omega)
  have e : l = (textLoop bs st n.toNat s2).1 := by rw [textF, h1] at h; simp only [h2] at h; rw [h]
  rw [e, textLoop_length]
  omega

theorem Drawn.keepRow {B : Nat} {w w' : World} {C : Nat} {a : Option Addr} {cap : Nat} {bs : List UInt8} {s : St} (h : Drawn B w w' C a cap bs s) {B2 e size : Nat} {v : Value} {n : Nat} {xs : List Value} (ho : w.ownsRow B2 e size v n xs) (hC : C < B2) : w'.ownsRow B2 e size v n xs :=
  ho.kept h.grown (by
    cases hv : v.ownBlock with
    | none => exact Or.inl rfl
    | some k => exact Or.inr (fun e => by have := (ho.lt k hv).1; have := Option.some.inj e; omega))
/-- An append to a row of later blocks: for the cursor it is as if nothing had been. -/
theorem Drawn.later {B : Nat} {w w1 w2 : World} {C : Nat} {a : Option Addr} {cap : Nat} {bs : List UInt8} {s : St} {row : Option Nat} (h : Drawn B w w1 C a cap bs s) (hg : w1.grownBy w2 row) (hr : ∀ k, row = some k → w.heap.size ≤ k) (hC : C < w.heap.size) (hB : B ≤ w.heap.size) : Drawn B w w2 C a cap bs s :=
  ⟨h.at_.grown hg (fun k hk => by have := hr k hk; omega), ⟨hg.os.trans h.grown.os, hg.tape.trans h.grown.tape, hg.output.trans h.grown.output, Nat.le_trans h.grown.size hg.size,
    fun k hk hkr => (hg.block k (Nat.lt_of_lt_of_le hk h.grown.size) (fun e => by have := hr k e.symm; omega)).trans (h.grown.block k hk hkr)⟩⟩

set_option maxRecDepth 100000 in
theorem l1Text_at (B : Nat) (w : World) (C : Nat) (a : Option Addr) (cap : Nat) (bs : List UInt8) (s s' : St) (most : Int) (l : List UInt8) (hE : textF bs s most = (l, s')) (hc : CurAt B w C a cap bs s) (hB : B ≤ w.heap.size) (hm0 : 0 ≤ most) (hm1 : most ≤ 1000000) :
    Calls Tryd.prog 60 #[.pointer (some ⟨C, 0, none⟩), .int .i64 most] w fun e w' => e = .returned (.string ⟨l.toArray⟩) ∧ Drawn B w w' C a cap bs s' := by
  obtain ⟨i0, hi, hz0, hz1, hz2⟩ := info_parts infoByte
  rcases h1 : belowF bs s 4 with ⟨st, s1⟩
  rcases h2 : belowF bs s1 (most + 1) with ⟨n, s2⟩
  obtain ⟨t0, t1⟩ := belowF_range h1 (by omega)
  obtain ⟨n0, n1⟩ := belowF_range h2 (by omega)
  have HL : Hid (textLoop bs st n.toNat s2 = (l, s')) := Lib.hid (by rw [textF, h1] at hE; simp only [h2] at hE; exact hE)
  have HC := Lib.hid hc
  have H1 := Lib.hid h1
  have H2 := Lib.hid h2
  have hCl : C < w.heap.size := (Array.getElem?_eq_some_iff.1 hc.cur).1
  clear hE hc h1 h2
  go_enter Tryd.func60, Tryd.ntmps60
  go_wp2_with fail
  refine (l1Below_at B _ C a cap bs s s1 4 st H1.out (HC.out.alloc _)).mono ?_
  rintro e w1 ⟨rfl, hd1⟩
  go_wp2_with fail
  refine (l1Below_at B _ C a cap bs s1 s2 (most + 1) n H2.out hd1.at_).mono ?_
  rintro e w2 ⟨rfl, hd2⟩
  have ho2 := hd2.keepRow (hd1.keepRow (World.ownsRow_made (base := w.heap.size) (e := 5) (size := 1) w #[] 0 (Nat.le_refl _) (by unfold maxLen; omega) rfl) hCl) hCl
  have hD2 : Drawn B w w2 C a cap bs s2 := ⟨hd2.at_, grownBy_trans (World.grownBy_alloc w _ _) (grownBy_trans hd1.grown hd2.grown)⟩
  have hsz2 := hD2.grown.size
  clear hd1 hd2
  go_wp2_with fail
  obtain ⟨N, rfl⟩ : ∃ N : Nat, n = N := ⟨n.toNat, by omega⟩
  have HL' : Hid (textLoop bs st N s2 = (l, s')) := by simpa using HL
  clear HL
  go_loopw [5, 7] (fun v nn wr => ∃ (m k : Nat) (xs : List UInt8) (sc : St), nn = .int .i64 m ∧ k + m ≤ 1000001 ∧ Hid (l = xs ++ (textLoop bs st m sc).1 ∧ s' = (textLoop bs st m sc).2) ∧ wr.ownsRow w.heap.size 5 1 v k (bcells xs) ∧ Drawn B w wr C a cap bs sc)
    (fun _ nn _ => (intOf nn).toNat)
  case atStart => exact ⟨N, 0, [], s2, rfl, by omega, Lib.hid (by rw [HL'.out]; exact ⟨rfl, rfl⟩), ho2, hD2⟩
  case round =>
    clear ho2 hD2 hsz2
    obtain ⟨m, k, xs, sc, rfl, hkm, hx, hown, hD⟩ := hrel
    have hszr := hD.grown.size
    by_cases hm : 0 < m
    · obtain ⟨m, rfl⟩ : ∃ q, m = q + 1 := ⟨m - 1, by omega⟩
      rcases hb : byteF bs sc with ⟨b, sc'⟩
      obtain ⟨b0, b1⟩ := byteF_at hb
      obtain ⟨c, hc⟩ : ∃ c, c = UInt8.ofNat (styleF st b).toNat := ⟨_, rfl⟩
      have HR : Hid (l = (xs ++ [c]) ++ (textLoop bs st m sc').1 ∧ s' = (textLoop bs st m sc').2) := Lib.hid (by
        have h := hx.out
        simp only [textLoop, hb] at h
        rw [← hc] at h
        exact ⟨by rw [h.1]; simp, h.2⟩)
      obtain ⟨c0, c1⟩ := styleF_range (st := st) b0 b1
      have hcc : styleF st b = (c.toNat : Int) := by rw [hc, u8_ofNat_toNat _ (by omega)]; omega
      have HCC := Lib.hid hcc
      have HB := Lib.hid hb
      clear hb hc hcc c0 c1 hx
      by_cases e1 : st = 1
      · have HX : Hid (b % 2 = (c.toNat : Int)) := Lib.hid (by rw [← HCC.out, styleF, if_pos e1])
        have t1 : (st == 1) = true := by simpa using e1
        have t2 : (st == 2) = false := by simp; omega
        clear e1
        go_wp2_with (first
          | (go_at_call 59; refine (l1Byte_at B _ C a cap bs sc sc' b HB.out hD.at_).mono ?_; rintro e w3 ⟨rfl, hd3⟩)
          | (at_builtin; refine wpList_append_own _ rfl _ _ 22 rfl w.heap.size 5 i0 (.int .u8 0) 1 1 Tryd.underlying22 hi hz0 hz1 hz2 rfl (by decide) _ _ _ rfl ((hd3.keepRow hown hCl).alloc _) ⟨w3.heap.size, 0, none⟩ 1 1 (bcells [c]) rfl rfl (fun j u hu => by rw [Addr.add_lit, Nat.zero_add]; exact cell_one_put _ _ _ _ HX.out j u hu) (bcells_one _) (by unfold maxLen; omega) (by omega) (by simp; have := hd3.grown.size; omega) ?_; intro v' w4 hown' hgrow _))
        go_roundw
        case rel => exact ⟨m, k + 1, xs ++ [c], sc', by go_num, by omega, HR, by rw [bcells_append]; exact hown', ((hD.trans hd3).later (World.grownBy_alloc w3 _ none) (fun q hq => by cases hq) hCl hB).later hgrow (fun q hq => (hown.lt q hq).1) hCl hB⟩
        case measure => simp [intOf]
      · have t1 : (st == 1) = false := by simpa using e1
        by_cases e2 : st = 2
        · have HX : Hid (97 + b % 4 = (c.toNat : Int)) := Lib.hid (by rw [← HCC.out, styleF, if_neg e1, if_pos e2])
          have t2 : (st == 2) = true := by simpa using e2
          clear e1 e2
          go_wp2_with (first
            | (go_at_call 59; refine (l1Byte_at B _ C a cap bs sc sc' b HB.out hD.at_).mono ?_; rintro e w3 ⟨rfl, hd3⟩)
            | (at_builtin; refine wpList_append_own _ rfl _ _ 22 rfl w.heap.size 5 i0 (.int .u8 0) 1 1 Tryd.underlying22 hi hz0 hz1 hz2 rfl (by decide) _ _ _ rfl ((hd3.keepRow hown hCl).alloc _) ⟨w3.heap.size, 0, none⟩ 1 1 (bcells [c]) rfl rfl (fun j u hu => by rw [Addr.add_lit, Nat.zero_add]; exact cell_one_put _ _ _ _ HX.out j u hu) (bcells_one _) (by unfold maxLen; omega) (by omega) (by simp; have := hd3.grown.size; omega) ?_; intro v' w4 hown' hgrow _))
          go_roundw
          case rel => exact ⟨m, k + 1, xs ++ [c], sc', by go_num, by omega, HR, by rw [bcells_append]; exact hown', ((hD.trans hd3).later (World.grownBy_alloc w3 _ none) (fun q hq => by cases hq) hCl hB).later hgrow (fun q hq => (hown.lt q hq).1) hCl hB⟩
          case measure => simp [intOf]
        · have HX : Hid (b = (c.toNat : Int)) := Lib.hid (by rw [← HCC.out, styleF, if_neg e1, if_neg e2])
          have t2 : (st == 2) = false := by simpa using e2
          clear e1 e2
          go_wp2_with (first
            | (go_at_call 59; refine (l1Byte_at B _ C a cap bs sc sc' b HB.out hD.at_).mono ?_; rintro e w3 ⟨rfl, hd3⟩)
            | (at_builtin; refine wpList_append_own _ rfl _ _ 22 rfl w.heap.size 5 i0 (.int .u8 0) 1 1 Tryd.underlying22 hi hz0 hz1 hz2 rfl (by decide) _ _ _ rfl ((hd3.keepRow hown hCl).alloc _) ⟨w3.heap.size, 0, none⟩ 1 1 (bcells [c]) rfl rfl (fun j u hu => by rw [Addr.add_lit, Nat.zero_add]; exact cell_one_put _ _ _ _ HX.out j u hu) (bcells_one _) (by unfold maxLen; omega) (by omega) (by simp; have := hd3.grown.size; omega) ?_; intro v' w4 hown' hgrow _))
          go_roundw
          case rel => exact ⟨m, k + 1, xs ++ [c], sc', by go_num, by omega, HR, by rw [bcells_append]; exact hown', ((hD.trans hd3).later (World.grownBy_alloc w3 _ none) (fun q hq => by cases hq) hCl hB).later hgrow (fun q hq => (hown.lt q hq).1) hCl hB⟩
          case measure => simp [intOf]
    · obtain rfl : m = 0 := by omega
      have hcv := own_string (P := Tryd.prog) 22 9 Tryd.underlying22 Tryd.underlying5 Tryd.underlying9 hown
      have HE : Hid (l = xs ∧ s' = sc) := Lib.hid (by have h := hx.out; simpa [textLoop] using h)
      clear hx
      go_wp2_with fail
      go_ret
      rw [HE.out.1, HE.out.2]
      exact ⟨rfl, hD⟩
end Go.Proofs.YthficfeiomddmaaDoor
