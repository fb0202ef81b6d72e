/-
  Data with depth: rows of marks, as the exact laws' small functions go through them.
-/
import Derived.Test.YtkflinobmagiiaaDeep
namespace Go.Proofs.Ytkflinobmagiiaa
open Go.RowKit Go.Sort
set_option linter.unusedVariables false
set_option linter.unusedSimpArgs false

theorem szBoolS_c (w : World) (B : Nat) (a : Option Addr) (n c : Nat) (xs : List Bool) (L : Int) (h : ListAt Shape.bool (Under B) w a n xs) (hB : B ≤ w.heap.size) (hn : n ≤ 9223372036854775807) (h0 : 0 ≤ L) (h1 : L ≤ 1048576) :
    Calls Try.prog 44 #[.slice a n c, .int .i64 L] w fun e w' => e = .returned (.int .i64 (szN ((Shape.list Shape.bool).bulk xs) L)) ∧ Below w.heap.size w w' := by
  rw [bulk_bools, h.1]
  clear h
  by_cases hL : (n : Int) ≤ L
  · rw [szN_yes hL]
    have hd : decide (L - (n : Int) < 0) = false := decide_eq_false (by omega)
    go_enter Try.func44, Try.ntmps44
    go_wp2_with fail
    go_ret
    exact ⟨rfl, Below.refl _ _⟩
  · rw [szN_no hL]
    have hd : decide (L - (n : Int) < 0) = true := decide_eq_true (by omega)
    go_enter Try.func44, Try.ntmps44
    go_wp2_with fail
    go_ret
    exact ⟨rfl, Below.refl _ _⟩
theorem bool_reads {I : Nat → Prop} {w : World} {es : List Value} {x : Bool} : Shape.bool.reads I w es x ↔ es = [.bool x] := Iff.rfl
/-- The mark at a place of a list of marks. -/
theorem ListAt.mark {I : Nat → Prop} {w : World} {a : Option Addr} {n : Nat} {xs : List Bool} (h : ListAt Shape.bool I w a n xs) (j : Nat) (hj : j < n) : ∃ b o, a = some ⟨b, o, none⟩ ∧ I b ∧ w.cell? ⟨b, o + j, none⟩ = some (.bool (xs.getD j false)) := by
  have hx : xs[j]? = some (xs.getD j false) := by
    rw [List.getElem?_eq_getElem (by rw [h.1]; exact hj)]
    simp [List.getD, h.1, hj]
  obtain ⟨b, o, es, e, hb, hr, hs⟩ := h.2 j _ hx
  have hs' : es = [.bool (xs.getD j false)] := hs
  subst hs'
  refine ⟨b, o, e, hb, ?_⟩
  have := hr 0 _ rfl
  simpa [Shape.bool] using this
theorem infoAll_bool : (Try.prog.info? 4).map (fun i => (i.zero, i.size, i.bytes)) = some (some (.bool false), 1, 1) := by kernel_rfl
set_option maxRecDepth 100000 in
set_option maxHeartbeats 1600000 in
theorem toBoolS_c (w : World) (B : Nat) (a : Option Addr) (n c : Nat) (xs : List Bool) (h : ListAt Shape.bool (Under B) w a n xs) (hB : B ≤ w.heap.size) (hb : (Shape.list Shape.bool).bulk xs ≤ 1048576) :
    Calls Try.prog 48 #[.slice a n c] w fun e w' => e = .returned (.slice (some ⟨w.heap.size, 0, none⟩) n n) ∧ ListAt Shape.bool (From w.heap.size w'.heap.size) w' (some ⟨w.heap.size, 0, none⟩) n xs ∧ Below w.heap.size w w' := by
  rw [bulk_bools, h.1] at hb
  have hmk := run_make_many (P := Try.prog) 28 4 _ 1 1 Try.underlying28 infoAll_bool n (by omega) (by omega)
  have hst := Filled.start Shape.bool w n xs (Value.bool false).cells 4
  rw [show Shape.bool.size = 1 from rfl, Nat.mul_one] at hst
  rw [Nat.mul_one] at hmk
  replace hst := Lib.hid hst
  have HL := Lib.hid h
  have hn1 : n ≤ 1048576 := by omega
  clear h hb
  go_enter Try.func48, Try.ntmps48
  go_wp2_with fail
  go_loopw [4] (fun i wr => ∃ k : Nat, k ≤ n ∧ i = .int .i64 k ∧ Filled Shape.bool w wr n k xs) (fun i _ => n - (intOf i).toNat)
  case atStart => exact ⟨0, Nat.zero_le _, rfl, hst.out⟩
  case round =>
    obtain ⟨k, hk, rfl, hf⟩ := hrel
    by_cases hlt : k < n
    · obtain ⟨b, o, rfl, hbB, hc0⟩ := HL.out.mark k hlt
      have hx : xs[k]? = some (xs.getD k false) := by
        rw [List.getElem?_eq_getElem (by rw [HL.out.1]; exact hlt)]
        simp [List.getD, HL.out.1, hlt]
      have hfb := hf.below
      have hfl := hf.lt
      have hth0 := hf.rest
      have hN := hf.step hlt (Below.refl _ _) hx rfl
      obtain ⟨X, hX⟩ : ∃ X, xs.getD k false = X := ⟨_, rfl⟩
      rw [hX] at hN hc0
      have c0 := (hfb.cell (p := ⟨b, o + k, none⟩) (Nat.lt_of_lt_of_le hbB hB)).trans hc0
      rw [show Shape.bool.size = 1 from rfl, Nat.mul_one] at hth0 hN
      obtain ⟨⟨v0, d0⟩, f0⟩ := there_cell hth0 0 (by omega)
      simp only [Nat.add_zero] at d0 f0
      have HN := Lib.hid hN
      clear hX hx hc0 hfb hfl hth0 hN hf
      go_wp2_with fail
      go_round
      case rel => exact ⟨k + 1, by omega, by go_num, HN.out⟩
      case measure => simp [intOf]; omega
    · obtain rfl : k = n := by omega
      have hz := hf.below
      have HF := Lib.hid hf
      clear hf hz
      go_wp2_with fail
      go_ret
      exact ⟨rfl, HF.out.list HL.out.1, HF.out.below⟩
set_option maxRecDepth 100000 in
set_option maxHeartbeats 1600000 in
theorem eqBoolS_c (w : World) (B B' : Nat) (a a' : Option Addr) (n c c' : Nat) (xs : List Bool) (h : ListAt Shape.bool (Under B) w a n xs) (h' : ListAt Shape.bool (Under B') w a' n xs) (hB : B ≤ w.heap.size) (hB' : B' ≤ w.heap.size) (hb : (Shape.list Shape.bool).bulk xs ≤ 1048576) :
    Calls Try.prog 52 #[.slice a n c, .slice a' n c'] w fun e w' => e = .returned (.bool true) ∧ Below w.heap.size w w' := by
  rw [bulk_bools, h.1] at hb
  have HL := Lib.hid (h.le hB)
  have HL' := Lib.hid (h'.le hB')
  clear h h'
  go_enter Try.func52, Try.ntmps52
  go_wp2_with fail
  go_loopw [5] (fun i wr => ∃ k : Nat, k ≤ n ∧ i = .int .i64 k ∧ Below w.heap.size w wr) (fun i _ => n - (intOf i).toNat)
  case atStart => exact ⟨0, Nat.zero_le _, rfl, Below.refl _ _⟩
  case round =>
    obtain ⟨k, hk, rfl, hbw⟩ := hrel
    by_cases hlt : k < n
    · obtain ⟨b, o, rfl, hbB, hc0⟩ := HL.out.mark k hlt
      obtain ⟨b', o', rfl, hbB', hc0'⟩ := HL'.out.mark k hlt
      obtain ⟨X, hX⟩ : ∃ X, xs.getD k false = X := ⟨_, rfl⟩
      rw [hX] at hc0 hc0'
      have c0 := (hbw.cell (p := ⟨b, o + k, none⟩) hbB).trans hc0
      have d0 := (hbw.cell (p := ⟨b', o' + k, none⟩) hbB').trans hc0'
      have HBW := Lib.hid hbw
      clear hX hc0 hc0' hbw
      have hxx : (X != X) = false := by cases X <;> rfl
      go_wp2_with fail
      go_quiet (fail)
      go_wp2_with fail
      go_roundw
      case rel => exact ⟨k + 1, by omega, by go_num, HBW.out.trans ⟨rfl, rfl, rfl, Nat.le_refl _, fun _ _ => rfl⟩⟩
      case measure => simp [intOf]; omega
    · obtain rfl : k = n := by omega
      have HBW := Lib.hid hbw
      clear hbw
      go_wp2_with fail
      go_ret
      exact ⟨rfl, HBW.out⟩
end Go.Proofs.Ytkflinobmagiiaa
