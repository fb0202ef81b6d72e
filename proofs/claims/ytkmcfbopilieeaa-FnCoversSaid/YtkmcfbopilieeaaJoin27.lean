import Derived.Test.YtkmcfbopilieeaaJoin11
import Derived.Test.YtkmcfbopilieeaaJoin26
/-! YtkmcfbopilieeaaVecX -/
section

namespace Go.Proofs.Ytkmcfbopilieeaa
open Go.RowKit
set_option linter.unusedVariables false

end Go.Proofs.Ytkmcfbopilieeaa

end

/-! YtkmcfbopilieeaaDrawVec -/
section

namespace Go.Proofs.Ytkmcfbopilieeaa
open Go.RowKit
set_option linter.unusedVariables false

theorem Turned.put {B : Nat} {w w1 w2 : World} {C : Nat} {v : Value} {zs : List Int} (h : Turned B w w1 C) (hC : C < w.heap.size) (hrow : Row w.heap.size w1 v zs) (o : Obj) (hg : (w1.alloc o).grownBy w2 v.ownBlock) : Turned B w w2 C := by
  have hup := h.1.up
  refine ⟨(h.1.alloc o).grown hg (fun k hk => ?_), ?_⟩
  · have := (hrow.lt k hk).1
    exact ⟨by omega, by omega⟩
  · have hs := h.size
    refine ⟨hg.os.trans h.2.os, hg.tape.trans h.2.tape, hg.output.trans h.2.output, Nat.le_trans h.2.size (Nat.le_trans (by simp) hg.size), fun b hb hne => ?_⟩
    rw [hg.block b (by simp; omega) (fun e => by have := (hrow.lt b e.symm).1; omega), Below.heap_alloc _ _ _ (by omega)]
    exact h.2.block b hb hne
theorem Turned.store {B : Nat} {w w1 w2 : World} {C : Nat} {g : Nat} (h : Turned B w w1 C) (hC : C < w.heap.size) (hg : w1.grownBy w2 (some g)) (hge : w.heap.size ≤ g) : Turned B w w2 C := by
  have hup := h.1.up
  refine ⟨h.1.grown hg (fun k hk => ?_), ?_⟩
  · cases hk; exact ⟨by omega, by omega⟩
  · have hs := h.size
    refine ⟨hg.os.trans h.2.os, hg.tape.trans h.2.tape, hg.output.trans h.2.output, Nat.le_trans h.2.size hg.size, fun b hb hne => ?_⟩
    rw [hg.block b (by omega) (fun e => by cases e; omega)]
    exact h.2.block b hb hne
theorem Row.turned {base B : Nat} {w w' : World} {C : Nat} {v : Value} {zs : List Int} (h : Row base w v zs) (hC : C < base) (ht : Turned B w w' C) : Row base w' v zs :=
  h.kept ht.2 (by
    cases e : v.ownBlock with
    | none => exact .inl rfl
    | some g =>
      refine .inr fun e2 => ?_
      have := h.lt g e
      cases e2
      omega)

theorem Row.first {base : Nat} {w : World} {v : Value} {xs : List Int} (h : Row base w v xs) (hn : 0 < xs.length) : ∃ g cap, v = .slice (some ⟨g, 0, none⟩) xs.length cap ∧ base ≤ g ∧ g < w.heap.size := by
  have hlt := World.ownsRow.lt h
  rcases h.2 with ⟨_, h0⟩ | ⟨g, cap, cur, rfl, _⟩
  · omega
  · exact ⟨g, cap, rfl, hlt g rfl⟩
/-- A row of numbers was drawn. -/
def DrewV (P : List Int → Prop) (B : Nat) (w : World) (C : Nat) (e : Ending) (w' : World) : Prop := ∃ v xs, e = .returned v ∧ P xs ∧ Row w.heap.size w' v xs ∧ Turned B w w' C

set_option maxRecDepth 100000 in
theorem l3Vec_e (B : Nat) (w : World) (C : Nat) (n : Nat) (hn : n ≤ 100) (hc : Cu B w C) :
    Calls Try.prog 84 #[.pointer (some ⟨C, 0, none⟩), .int .i64 n] w (DrewV (fun xs => xs.length = n) B w C) := by
  obtain ⟨i0, hi, hz0, hz1, hz2⟩ := info_parts Try.infoI64
  have HC := Lib.hid hc
  have hlt := hc.lt
  clear hc
  go_enter Try.func84, Try.ntmps84
  go_wp2_with fail
  go_loopw [5, 6] (fun m i wr => ∃ (k : Nat) (xs : List Int), k ≤ n ∧ i = .int .i64 k ∧ Hid (xs.length = k) ∧ Row w.heap.size wr m xs ∧ Turned B w wr C) (fun _ i _ => n - (intOf i).toNat)
  case atStart => exact ⟨0, [], Nat.zero_le _, rfl, Lib.hid rfl, Row.empty w _ rfl, (Turned.refl HC.out).alloc _⟩
  case round =>
    obtain ⟨k, xs, hk, rfl, hl, hrow, ht⟩ := hrel
    have HR := Lib.hid hrow
    have HT := Lib.hid ht
    clear hrow ht
    by_cases hlk : k < n
    · go_wp2_with fail
      refine (l2Fix_e B _ C HT.out.cu).mono ?_
      rintro e w2 ⟨x, rfl, _, ht2⟩
      have hr2 := HR.out.turned hlt ht2
      have ht2' := HT.out.trans ht2
      have hsz := ht2'.size
      have hown : w2.ownsRow w.heap.size 3 1 _ xs.length (icells xs) := hr2
      have hxl : xs.length ≤ 100 := by rw [hl.out]; omega
      have HR2 := Lib.hid hr2
      have HT2 := Lib.hid ht2'
      clear ht2 hr2 ht2'
      go_wp2_with (at_builtin; refine wpList_append_own _ rfl _ _ 29 rfl w.heap.size 3 i0 (.int .i64 0) 1 8 Try.underlying29 hi hz0 hz1 hz2 rfl (by decide) _ _ _ rfl (hown.alloc _) ⟨w2.heap.size, 0, none⟩ 1 1 (icells [x]) rfl rfl (cell_num_put _ _ _) (icells_one _) (by unfold maxLen; omega) (by omega) (by simp; omega) ?_; intro v' w3 hown' hgrow _)
      have hput := Row.put HR2.out hsz _ hown' hgrow
      have htt := HT2.out.put hlt HR2.out _ hgrow
      clear hown' hgrow hown
      go_wp2_with fail
      go_roundw
      case rel => exact ⟨k + 1, xs ++ [x], by omega, by go_num, Lib.hid (by rw [List.length_append, hl.out]; rfl), hput.1, htt⟩
      case measure => simp [intOf]; omega
    · obtain rfl : k = n := by omega
      go_wp2_with fail
      go_ret
      exact ⟨_, xs, rfl, hl.out, HR.out, HT.out⟩

/-- Two rows. -/
def DrewVV (B : Nat) (w : World) (C : Nat) (e : Ending) (w' : World) : Prop := ∃ v xs u ys, e = .returned (.tuple #[v, u]) ∧ (xs.length ≤ 7 ∧ ys.length ≤ 7) ∧ Row w.heap.size w' v xs ∧ Row w.heap.size w' u ys ∧ Turned B w w' C

end Go.Proofs.Ytkmcfbopilieeaa

end
