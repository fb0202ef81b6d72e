import Derived.Test.YtpnifgpmleaohaaGreatDoorJoin8
/-! YtpnifgpmleaohaaGreatDoorZSeqS -/
section

namespace Go.Proofs.YtpnifgpmleaohaaGreatDoor
open Go.RowKit
set_option linter.unusedVariables false

def sameGradsB (a b : dGrads) : Bool := decide (a.2.1 = b.2.1) && (decide (a.2.2 = b.2.2) && sameRowsB a.1 b.1)
set_option maxRecDepth 100000 in
theorem specSameGrads_d (w : World) (es : List Value) (x : dGrads) (h : shGrads.reads (Under w.heap.size) w es x) (hb : shGrads.bulk x ≤ 1048576) (es' : List Value) (y : dGrads) (h' : shGrads.reads (Under w.heap.size) w es' y) (hb' : shGrads.bulk y ≤ 1048576) :
    Calls Tryz.prog 17 #[.agg es.toArray, .agg es'.toArray] w fun e w' => e = .returned (.bool (sameGradsB x y)) ∧ Below w.heap.size w w' := by
  obtain ⟨a, n, c, rfl, h1, h2, h3⟩ := shGrads_reads.1 h
  obtain ⟨a', n', c', rfl, g1, g2, g3⟩ := shGrads_reads.1 h'
  rw [shGrads_bulk] at hb hb'
  have hal : Below w.heap.size w ((w.alloc (.cells #[.slice a n c, .int .i64 x.2.1, .bool x.2.2] 30 (0, 0))).alloc (.cells #[.slice a' n' c', .int .i64 y.2.1, .bool y.2.2] 30 (0, 0))) := ((Below.refl _ _).alloc (Nat.le_refl _) _).alloc (by simp) _
  have HS := Lib.hid (specSameRows_c _ a n c x.1 ((h3.below hal (Nat.le_refl _)).le hal.size) hb a' n' c' y.1 ((g3.below hal (Nat.le_refl _)).le hal.size) hb')
  have HA := Lib.hid hal
  obtain ⟨L, hL⟩ : ∃ L, x.2.1 = L := ⟨_, rfl⟩
  obtain ⟨S, hS⟩ : ∃ S, x.2.2 = S := ⟨_, rfl⟩
  obtain ⟨M, hM⟩ : ∃ M, y.2.1 = M := ⟨_, rfl⟩
  obtain ⟨T, hT⟩ : ∃ T, y.2.2 = T := ⟨_, rfl⟩
  unfold sameGradsB
  rw [hL, hS, hM, hT] at HS HA
  rw [hL, hS, hM, hT]
  obtain ⟨q, hq⟩ : ∃ q, sameRowsB x.1 y.1 = q := ⟨_, rfl⟩
  rw [hq] at HS ⊢
  clear h h' h3 g3 hal hL hS hM hT hq hb hb'
  by_cases e1 : L = M
  · subst e1
    by_cases e2 : S = T
    · subst e2
      have hSS : (S == S) = true := by simp
      rw [decide_eq_true rfl, decide_eq_true rfl]
      go_enter Tryz.func17, Tryz.ntmps17
      go_wp2_with fail
      refine HS.out.mono ?_
      rintro e w1 ⟨rfl, hb⟩
      have HB := Lib.hid (HA.out.trans (hb.mono HA.out.size))
      clear hb
      go_wp2_with fail
      go_ret
      exact ⟨by simp, HB.out⟩
    · have hne : (S == T) = false := by simpa using e2
      rw [decide_eq_true rfl, decide_eq_false e2]
      clear e2
      go_enter Tryz.func17, Tryz.ntmps17
      go_wp2_with fail
      go_ret
      exact ⟨by simp, HA.out⟩
  · have hne : (L == M) = false := by simpa using e1
    rw [decide_eq_false e1]
    clear e1
    go_enter Tryz.func17, Tryz.ntmps17
    go_wp2_with fail
    go_ret
    exact ⟨by simp, HA.out⟩
end Go.Proofs.YtpnifgpmleaohaaGreatDoor

end

/-! YtpnifgpmleaohaaGreatDoorZOpF -/
section

namespace Go.Proofs.YtpnifgpmleaohaaGreatDoor
open Go.RowKit
set_option linter.unusedVariables false

/-- Ahead, where all is right. -/
theorem fwN_is {k i o : Int} {ps xs : List Int} (h : fwOk k i o ps xs = true) : fwN k i o ps xs = (if k = 1 then mvN o i ps xs else if k = 2 then rowP addN xs ps else if k = 3 then rowP (fun x _ => reluN x) xs xs else if k = 4 then scaleN (ps.getD 0 0) xs else rowP addN xs (mvN o i ps xs)) ∧
    fwB k i o ps xs = (if k = 1 then mvB o i ps xs else if k = 2 then flagP addB xs ps else if k = 3 then false else if k = 4 then scaleB (ps.getD 0 0) xs else mvB o i ps xs || flagP addB xs (mvN o i ps xs)) := by
  unfold fwN fwB
  rw [h]
  exact ⟨rfl, rfl⟩

end Go.Proofs.YtpnifgpmleaohaaGreatDoor

end
