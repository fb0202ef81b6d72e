/-
  What is drawn: numbers.
-/
import Derived.Test.YtkflinobmagiiaaJoin1
namespace Go.Proofs.Ytkflinobmagiiaa
open Go.RowKit
set_option linter.unusedVariables false

theorem and30 (y : Int) : 0 ≤ bits .and .i64 y 1073741823 ∧ bits .and .i64 y 1073741823 ≤ 1073741823 := by
  have e : bits .and .i64 y 1073741823 = IntKind.i64.wrap (((BitVec.ofInt 64 y &&& BitVec.ofInt 64 1073741823).toNat : Nat) : Int) := rfl
  have hb : (BitVec.ofInt 64 y &&& BitVec.ofInt 64 1073741823).toNat ≤ 1073741823 := by
    rw [BitVec.toNat_and]
    exact Nat.le_trans Nat.and_le_right (by decide)
  rw [e, IntKind.wrap_i64]
  omega
/-- The number that the code's first k bytes make. -/
def newH (bs : List UInt8) : Nat → Int
  | 0 => 10101 + bs.length
  | k + 1 => bits .and .i64 (newH bs k * 131 + ((bs.getD k 0).toNat : Int) + 7) 1073741823
theorem newH_range (bs : List UInt8) (h : bs.length ≤ 1048576) (k : Nat) : 0 ≤ newH bs k ∧ newH bs k ≤ 1073741823 := by
  cases k with
  | zero => simp only [newH]; omega
  | succ k => exact and30 _
def newSt (bs : List UInt8) : St := ⟨0, newH bs (min bs.length 4000)⟩

set_option maxRecDepth 100000 in
theorem l1New_any (B : Nat) (w : World) (a : Option Addr) (cap : Nat) (bs : List UInt8) (hB : B ≤ w.heap.size) (hroom : bs.length ≤ 1048576)
    (hcode : ∀ j (hj : j < bs.length), ∃ b o, a = some ⟨b, o, none⟩ ∧ b < B ∧ w.cell? ⟨b, o + j, none⟩ = some (.int .u8 (bs[j].toNat : Int))) :
    Calls Try.prog 32 #[.slice a bs.length cap] w fun e w' => e = .returned (.pointer (some ⟨w.heap.size, 0, none⟩)) ∧ CurAt B w' w.heap.size a cap bs (newSt bs) ∧ w.grownBy w' none := by
  go_enter Try.func32, Try.ntmps32
  go_wp2
  go_loop [3, 4] (fun h i => ∃ (k : Nat) (H : Int), k ≤ bs.length ∧ k ≤ 4000 ∧ 0 ≤ H ∧ H ≤ 1073741823 ∧ Hid (H = newH bs k) ∧ h = .int .i64 H ∧ i = .int .i64 k) (fun _ i => 4000 - (intOf i).toNat)
  case atStart => exact ⟨0, newH bs 0, Nat.zero_le _, Nat.zero_le _, (newH_range bs hroom 0).1, (newH_range bs hroom 0).2, Lib.hid rfl, rfl, rfl⟩
  case round =>
    obtain ⟨k, H, hk, hk4, hH0, hH1, hH, rfl, rfl⟩ := hrel
    by_cases hlt : k < bs.length
    · by_cases hlt4 : k < 4000
      · obtain ⟨b, o, rfl, hbB, hcb⟩ := hcode k hlt
        have hb8 : ((bs[k]'hlt).toNat : Int) < 256 := by have := (bs[k]'hlt).toNat_lt; omega
        obtain ⟨D, hD⟩ : ∃ D : Int, D = ((bs[k]'hlt).toNat : Int) := ⟨_, rfl⟩
        rw [← hD] at hcb hb8
        have hD0 : 0 ≤ D := by omega
        have hg : bs.getD k 0 = bs[k] := by simp [List.getD, hlt]
        have HN : Hid (newH bs (k + 1) = bits .and .i64 (H * 131 + D + 7) 1073741823) := Lib.hid (by rw [newH, hg, hD, hH.out])
        obtain ⟨Z, hZ⟩ : ∃ Z, bits .and .i64 (H * 131 + D + 7) 1073741823 = Z := ⟨_, rfl⟩
        have hZr := and30 (H * 131 + D + 7)
        rw [hZ] at hZr HN
        obtain ⟨hZ0, hZ1⟩ := hZr
        clear hD hg hcode
        go_wp2
        go_round
        case rel => exact ⟨k + 1, Z, by omega, by omega, hZ0, hZ1, Lib.hid HN.out.symm, rfl, by go_num⟩
        case measure => simp [intOf]; omega
      · have hd : decide ((k : Int) < 4000) = false := by simp; omega
        have HN : Hid (newSt bs = ⟨0, H⟩) := Lib.hid (by rw [newSt, hH.out, show min bs.length 4000 = k by omega])
        have HCODE := Lib.hid hcode
        clear hcode
        go_wp2
        go_ret
        rw [HN.out]
        refine ⟨rfl, ⟨?_, Nat.zero_le _, hroom, fun j hj => ?_, hB⟩, World.grownBy_alloc w _ none⟩
        · exact heap_alloc_new w _
        · obtain ⟨b, o, e1, e2, e3⟩ := HCODE.out j hj
          exact ⟨b, o, e1, e2, (World.cell?_of_block (w := w) (a := ⟨b, o + j, none⟩) (Below.heap_alloc w _ b (by omega))).trans e3⟩
    · have hd : decide (k < bs.length) = false := by simpa using hlt
      have HN : Hid (newSt bs = ⟨0, H⟩) := Lib.hid (by rw [newSt, hH.out, show min bs.length 4000 = k by omega])
      have HCODE := Lib.hid hcode
      clear hcode
      go_wp2
      go_ret
      rw [HN.out]
      refine ⟨rfl, ⟨?_, Nat.zero_le _, hroom, fun j hj => ?_, hB⟩, World.grownBy_alloc w _ none⟩
      · exact heap_alloc_new w _
      · obtain ⟨b, o, e1, e2, e3⟩ := HCODE.out j hj
        exact ⟨b, o, e1, e2, (World.cell?_of_block (w := w) (a := ⟨b, o + j, none⟩) (Below.heap_alloc w _ b (by omega))).trans e3⟩

/-- A number below n. -/
def belowF (bs : List UInt8) (s : St) (n : Int) : Int × St :=
  if n ≤ 0 then (0, s) else if n ≤ 256 then ((byteF bs s).1 % n, (byteF bs s).2) else
    (((byteF bs s).1 * 16777216 + (byteF bs (byteF bs s).2).1 * 65536 + (byteF bs (byteF bs (byteF bs s).2).2).1 * 256 + (byteF bs (byteF bs (byteF bs (byteF bs s).2).2).2).1) % n,
      (byteF bs (byteF bs (byteF bs (byteF bs s).2).2).2).2)
theorem belowF_range {bs : List UInt8} {s s' : St} {n x : Int} (h : belowF bs s n = (x, s')) (hn : 0 < n) : 0 ≤ x ∧ x < n := by
  have e : x = (belowF bs s n).1 := by rw [h]
  rw [e, belowF, if_neg (by omega)]
  split
  · exact ⟨Int.emod_nonneg _ (by omega), Int.emod_lt_of_pos _ hn⟩
  · exact ⟨Int.emod_nonneg _ (by omega), Int.emod_lt_of_pos _ hn⟩
theorem belowF_zero {bs : List UInt8} {s s' : St} {n x : Int} (h : belowF bs s n = (x, s')) (hn : n ≤ 0) : x = 0 ∧ s' = s := by
  rw [belowF, if_pos hn] at h
  simp only [Prod.mk.injEq] at h
  exact ⟨h.1.symm, h.2.symm⟩

theorem l1Byte_at (B : Nat) (w : World) (C : Nat) (a : Option Addr) (cap : Nat) (bs : List UInt8) (s s' : St) (x : Int) (hE : byteF bs s = (x, s')) (hc : CurAt B w C a cap bs s) :
    Calls Try.prog 88 #[.pointer (some ⟨C, 0, none⟩)] w fun e w' => e = .returned (.int .i64 x) ∧ Drawn B w w' C a cap bs s' := by
  have := l1Byte_any B w C a cap bs s hc
  rw [hE] at this
  exact this
theorem byteF_at {bs : List UInt8} {s s' : St} {x : Int} (h : byteF bs s = (x, s')) : 0 ≤ x ∧ x ≤ 255 := by
  have := byteF_range bs s
  rw [h] at this
  exact this

set_option maxRecDepth 100000 in
theorem l1Below_at (B : Nat) (w : World) (C : Nat) (a : Option Addr) (cap : Nat) (bs : List UInt8) (s s' : St) (n x : Int) (hE : belowF bs s n = (x, s')) (hc : CurAt B w C a cap bs s) :
    Calls Try.prog 60 #[.pointer (some ⟨C, 0, none⟩), .int .i64 n] w fun e w' => e = .returned (.int .i64 x) ∧ Drawn B w w' C a cap bs s' := by
  have HC := Lib.hid hc
  clear hc
  by_cases h0 : n ≤ 0
  · obtain ⟨rfl, rfl⟩ := belowF_zero hE h0
    clear hE
    go_enter Try.func60, Try.ntmps60
    go_wp2_with fail
    go_ret
    exact ⟨rfl, Drawn.refl HC.out⟩
  · by_cases h1 : n ≤ 256
    · rcases hb : byteF bs s with ⟨y, s1⟩
      obtain ⟨hy0, hy1⟩ := byteF_at hb
      have HE : Hid (x = y % n ∧ s' = s1) := Lib.hid (by
        rw [belowF, if_neg h0, if_pos h1, hb] at hE
        simp only [Prod.mk.injEq] at hE
        exact ⟨hE.1.symm, hE.2.symm⟩)
      have HB := Lib.hid hb
      clear hE hb
      go_enter Try.func60, Try.ntmps60
      go_wp2_with fail
      refine (l1Byte_at B _ C a cap bs s s1 y HB.out HC.out).mono ?_
      rintro e w1 ⟨rfl, hd1⟩
      go_wp2_with fail
      go_ret
      rw [HE.out.1, HE.out.2]
      exact ⟨rfl, hd1⟩
    · rcases hb1 : byteF bs s with ⟨y1, s1⟩
      rcases hb2 : byteF bs s1 with ⟨y2, s2⟩
      rcases hb3 : byteF bs s2 with ⟨y3, s3⟩
      rcases hb4 : byteF bs s3 with ⟨y4, s4⟩
      obtain ⟨hy10, hy11⟩ := byteF_at hb1
      obtain ⟨hy20, hy21⟩ := byteF_at hb2
      obtain ⟨hy30, hy31⟩ := byteF_at hb3
      obtain ⟨hy40, hy41⟩ := byteF_at hb4
      have HE : Hid (x = (y1 * 16777216 + y2 * 65536 + y3 * 256 + y4) % n ∧ s' = s4) := Lib.hid (by
        rw [belowF, if_neg h0, if_neg h1] at hE
        simp only [hb1, hb2, hb3, hb4, Prod.mk.injEq] at hE
        exact ⟨hE.1.symm, hE.2.symm⟩)
      have HB1 := Lib.hid hb1
      have HB2 := Lib.hid hb2
      have HB3 := Lib.hid hb3
      have HB4 := Lib.hid hb4
      clear hE hb1 hb2 hb3 hb4
      go_enter Try.func60, Try.ntmps60
      go_wp2_with fail
      refine (l1Byte_at B _ C a cap bs s s1 y1 HB1.out HC.out).mono ?_
      rintro e w1 ⟨rfl, hd1⟩
      go_wp2_with fail
      refine (l1Byte_at B _ C a cap bs s1 s2 y2 HB2.out hd1.at_).mono ?_
      rintro e w2 ⟨rfl, hd2⟩
      go_wp2_with fail
      refine (l1Byte_at B _ C a cap bs s2 s3 y3 HB3.out hd2.at_).mono ?_
      rintro e w3 ⟨rfl, hd3⟩
      go_wp2_with fail
      refine (l1Byte_at B _ C a cap bs s3 s4 y4 HB4.out hd3.at_).mono ?_
      rintro e w4 ⟨rfl, hd4⟩
      go_wp2_with fail
      go_ret
      rw [HE.out.1, HE.out.2]
      exact ⟨rfl, ((hd1.trans hd2).trans hd3).trans hd4⟩

set_option maxRecDepth 100000 in
theorem l1Once_at (B : Nat) (w : World) (C : Nat) (a : Option Addr) (cap : Nat) (bs : List UInt8) (s s' : St) (n x : Int) (hE : belowF bs s n = (x, s')) (hc : CurAt B w C a cap bs s) :
    Calls Try.prog 87 #[.pointer (some ⟨C, 0, none⟩), .int .i64 n] w fun e w' => e = .returned (.bool (x == 0)) ∧ Drawn B w w' C a cap bs s' := by
  have HC := Lib.hid hc
  have HE := Lib.hid hE
  clear hc hE
  go_enter Try.func87, Try.ntmps87
  go_wp2_with fail
  refine (l1Below_at B _ C a cap bs s s' n x HE.out HC.out).mono ?_
  rintro e w1 ⟨rfl, hd1⟩
  go_wp2_with fail
  go_ret
  exact ⟨rfl, hd1⟩

/-- The numbers at limits. -/
def numTab : List Int := [-1, 0, 127, 128, 255, 256, 16383, 16384, 65535, 65536, 562949953421311, 562949953421312, 999999999, 1000000000, -999999999, 9223372036854775807, -9223372036854775808]
set_option maxRecDepth 100000 in
theorem l1PickInt_at (B : Nat) (w : World) (C : Nat) (a : Option Addr) (cap : Nat) (bs : List UInt8) (s s' : St) (x : Int) (L m : Nat) (zs : List Int) (hm : zs.length = m) (hm0 : 0 < m) (hm1 : m ≤ 1000)
    (hE : belowF bs s m = (x, s')) (hc : CurAt B w C a cap bs s) (hLC : L ≠ C) (hz : ∀ j, j < m → w.cell? ⟨L, j, none⟩ = some (.int .i64 (zs.getD j 0))) :
    Calls Try.prog 62 #[.pointer (some ⟨C, 0, none⟩), .slice (some ⟨L, 0, none⟩) m m] w fun e w' => e = .returned (.int .i64 (zs.getD x.toNat 0)) ∧ Drawn B w w' C a cap bs s' := by
  have hr := belowF_range hE (by omega)
  obtain ⟨hr0, hr1⟩ := hr
  obtain ⟨k, hk⟩ : ∃ k : Nat, x = k := ⟨x.toNat, by omega⟩
  subst hk
  have hk1 : k < m := by omega
  have HC := Lib.hid hc
  have HE := Lib.hid hE
  have HZ := Lib.hid (hz k hk1)
  have HM := Lib.hid hm
  have hLl : L < w.heap.size := World.block_lt_of_cell? w _ (hz k hk1)
  clear hc hE hz hm
  go_enter Try.func62, Try.ntmps62
  go_wp2_with fail
  refine (l1Below_at B _ C a cap bs s s' m k HE.out HC.out).mono ?_
  rintro e w1 ⟨rfl, hd1⟩
  have hcl := hd1.grown.cell HZ.out (fun e => hLC (Option.some.inj e))
  obtain ⟨Y, hY⟩ : ∃ Y, Y = zs.getD k 0 := ⟨_, rfl⟩
  rw [← hY] at hcl
  have HY := Lib.hid hY
  clear hY
  go_wp2_with fail
  go_ret
  exact ⟨by rw [Int.toNat_natCast, ← HY.out]; rfl, hd1⟩
end Go.Proofs.Ytkflinobmagiiaa
