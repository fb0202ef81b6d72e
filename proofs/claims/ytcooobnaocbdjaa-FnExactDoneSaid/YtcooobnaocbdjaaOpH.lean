/-
  Operations: the small functions of the exact laws over them.
-/
import Derived.Test.YtcooobnaocbdjaaRow
import Derived.Test.YtcooobnaocbdjaaMat
namespace Go.Proofs.Ytcooobnaocbdjaa
open Go.RowKit
set_option linter.unusedVariables false

theorem szOp_ok (w : World) (r c u : Int) (a : Option Addr) (n cp : Nat) (L : Int) (h0 : (n : Int) ≤ L) (h1 : L ≤ 1048576) :
    Calls Try.prog 108 #[.agg #[.int .i64 r, .int .i64 c, .int .i64 u, .slice a n cp], .int .i64 L] w fun e w' => e = .returned (.int .i64 (L - n)) ∧ Below w.heap.size w w' := by
  have hd : decide (L - (n : Int) < 0) = false := decide_eq_false (by omega)
  go_enter Try.func108, Try.ntmps108
  go_wp2_with fail
  refine (szIntS_ok _ a n cp L h0 h1).mono ?_
  rintro e w' ⟨rfl, rfl⟩
  go_wp2_with fail
  go_ret
  exact ⟨rfl, (Below.refl _ _).alloc (Nat.le_refl _) _⟩
theorem szOp_big (w : World) (r c u : Int) (a : Option Addr) (n cp : Nat) (L : Int) (h0 : L < (n : Int)) (hl : 0 ≤ L) (h1 : L ≤ 1048576) (hn : n ≤ 9223372036854775807) :
    Calls Try.prog 108 #[.agg #[.int .i64 r, .int .i64 c, .int .i64 u, .slice a n cp], .int .i64 L] w fun e w' => e = .returned (.int .i64 (-1)) ∧ Below w.heap.size w w' := by
  go_enter Try.func108, Try.ntmps108
  go_wp2_with fail
  refine (szIntS_big _ a n cp L h0 hl h1 hn).mono ?_
  rintro e w' ⟨rfl, rfl⟩
  go_wp2_with fail
  go_ret
  exact ⟨rfl, (Below.refl _ _).alloc (Nat.le_refl _) _⟩

theorem store4 {w : World} {g : Nat} {x y z t : Value} {T : TypeId} (h : w.heap[g]? = some (.cells #[x, y, z, t] T (0, 0))) (a b c d : Value) :
    ((((w.setCell ⟨g, 0, none⟩ a).setCell ⟨g, 1, none⟩ b).setCell ⟨g, 2, none⟩ c).setCell ⟨g, 3, none⟩ d).heap[g]? = some (.cells #[a, b, c, d] T (0, 0)) := by
  have h1 := heap_setCell_same w g 0 _ T a h
  have h2 := heap_setCell_same _ g 1 _ T b h1
  have h3 := heap_setCell_same _ g 2 _ T c h2
  have h4 := heap_setCell_same _ g 3 _ T d h3
  exact h4
theorem cells4 {w : World} {g : Nat} {x y z t : Value} {T : TypeId} (h : w.heap[g]? = some (.cells #[x, y, z, t] T (0, 0))) :
    (w.cell? ⟨g, 0, none⟩ = some x ∧ w.cell? ⟨g, 1, none⟩ = some y ∧ w.cell? ⟨g, 2, none⟩ = some z ∧ w.cell? ⟨g, 3, none⟩ = some t) ∧ w.frozen? ⟨g, 0, none⟩ = false ∧ w.frozen? ⟨g, 1, none⟩ = false ∧ w.frozen? ⟨g, 2, none⟩ = false ∧ w.frozen? ⟨g, 3, none⟩ = false :=
  ⟨⟨by rw [cell_of_row _ _ _ _ _ _ h]; rfl, by rw [cell_of_row _ _ _ _ _ _ h]; rfl, by rw [cell_of_row _ _ _ _ _ _ h]; rfl, by rw [cell_of_row _ _ _ _ _ _ h]; rfl⟩, frozen_of_row w g 0 _ _ h, frozen_of_row w g 1 _ _ h, frozen_of_row w g 2 _ _ h, frozen_of_row w g 3 _ _ h⟩

set_option maxRecDepth 100000 in
theorem toOp_any (B : Nat) (w : World) (r c u : Int) (a : Option Addr) (n cap : Nat) (xs : List Int) (h : IntsIn B w a n xs) (hB : B ≤ w.heap.size) :
    Calls Try.prog 113 #[.agg #[.int .i64 r, .int .i64 c, .int .i64 u, .slice a n cap]] w fun e w' => ∃ g, e = .returned (.agg #[.int .i64 r, .int .i64 c, .int .i64 u, .slice (some ⟨g, 0, none⟩) n n]) ∧ Row w.heap.size w' (.slice (some ⟨g, 0, none⟩) n n) xs ∧ Below w.heap.size w w' := by
  have H := Lib.hid h
  clear h
  go_enter Try.func113, Try.ntmps113
  go_wp2_with fail
  have ha := ((((Below.refl w.heap.size w).alloc (Nat.le_refl _) (.cells #[.int .i64 r, .int .i64 c, .int .i64 u, .slice a n cap] 146 (0, 0))).alloc (by simp) (.cells #[.int .i64 0, .int .i64 0, .int .i64 0, .slice none 0 0] 120 (0, 0))).alloc (by simp; omega) (.cells #[.int .i64 r, .int .i64 c, .int .i64 u, .slice none 0 0] 120 (0, 0)))
  have hs : (((w.alloc (.cells #[.int .i64 r, .int .i64 c, .int .i64 u, .slice a n cap] 146 (0, 0))).alloc (.cells #[.int .i64 0, .int .i64 0, .int .i64 0, .slice none 0 0] 120 (0, 0))).alloc (.cells #[.int .i64 r, .int .i64 c, .int .i64 u, .slice none 0 0] 120 (0, 0))).heap.size = w.heap.size + 1 + 1 + 1 := by simp
  have k1 : (((w.alloc (.cells #[.int .i64 r, .int .i64 c, .int .i64 u, .slice a n cap] 146 (0, 0))).alloc (.cells #[.int .i64 0, .int .i64 0, .int .i64 0, .slice none 0 0] 120 (0, 0))).alloc (.cells #[.int .i64 r, .int .i64 c, .int .i64 u, .slice none 0 0] 120 (0, 0))).heap[w.heap.size + 1]? = some (.cells #[.int .i64 0, .int .i64 0, .int .i64 0, .slice none 0 0] 120 (0, 0)) := by
    rw [Below.heap_alloc _ _ _ (by simp)]
    have := heap_alloc_new (w.alloc (.cells #[.int .i64 r, .int .i64 c, .int .i64 u, .slice a n cap] 146 (0, 0))) (.cells #[.int .i64 0, .int .i64 0, .int .i64 0, .slice none 0 0] 120 (0, 0))
    simpa using this
  have k2 : (((w.alloc (.cells #[.int .i64 r, .int .i64 c, .int .i64 u, .slice a n cap] 146 (0, 0))).alloc (.cells #[.int .i64 0, .int .i64 0, .int .i64 0, .slice none 0 0] 120 (0, 0))).alloc (.cells #[.int .i64 r, .int .i64 c, .int .i64 u, .slice none 0 0] 120 (0, 0))).heap[w.heap.size + 1 + 1]? = some (.cells #[.int .i64 r, .int .i64 c, .int .i64 u, .slice none 0 0] 120 (0, 0)) := by
    have := heap_alloc_new ((w.alloc (.cells #[.int .i64 r, .int .i64 c, .int .i64 u, .slice a n cap] 146 (0, 0))).alloc (.cells #[.int .i64 0, .int .i64 0, .int .i64 0, .slice none 0 0] 120 (0, 0))) (.cells #[.int .i64 r, .int .i64 c, .int .i64 u, .slice none 0 0] 120 (0, 0))
    simpa using this
  generalize (((w.alloc (.cells #[.int .i64 r, .int .i64 c, .int .i64 u, .slice a n cap] 146 (0, 0))).alloc (.cells #[.int .i64 0, .int .i64 0, .int .i64 0, .slice none 0 0] 120 (0, 0))).alloc (.cells #[.int .i64 r, .int .i64 c, .int .i64 u, .slice none 0 0] 120 (0, 0))) = wa at ha hs k1 k2 ⊢
  refine (toIntS_any B _ a n cap xs (H.out.below ha hB) (by omega)).mono ?_
  rintro e w2 ⟨rfl, hr, hb⟩
  have q1 := (hb.block _ (by omega)).trans k1
  have q2 := (hb.block _ (by omega)).trans k2
  have HB := Lib.hid hb
  have HR := Lib.hid hr
  have HA := Lib.hid ha
  clear hb hr ha k1 k2
  obtain ⟨⟨c10, c11, c12, c13⟩, f10, f11, f12, f13⟩ := cells4 q1
  obtain ⟨⟨c20, c21, c22, c23⟩, f20, f21, f22, f23⟩ := cells4 q2
  have HQ := Lib.hid q1
  clear q1 q2
  go_wp2_with fail
  refine bodyPost_ret (results_cell_row rfl _ _ (w.heap.size + 1) 120 #[.int .i64 r, .int .i64 c, .int .i64 u, .slice (some ⟨w.heap.size + 1 + 1 + 1, 0, none⟩) n n] (0, 0) _ rfl ?_ Try.underlying120 rfl (by kernel_rfl)) rfl ?_
  · exact store4 ((Below.heap_setCell _ _ _ _ (by simp)).trans HQ.out) _ _ _ _
  have h0 := HR.out
  rw [hs] at h0
  exact ⟨w.heap.size + 1 + 1 + 1, rfl, (((((h0.setBelow (by simp) _).setBelow (by simp) _).setBelow (by simp) _).setBelow (by simp) _).setBelow (by simp) _).le (by omega),
    (((((HA.out.trans (HB.out.mono (by omega))).setCell (by simp; omega) _).setCell (by simp) _).setCell (by simp) _).setCell (by simp) _).setCell (by simp) _⟩

/-- Are two tables one? -/
theorem eqOp_same (w : World) (r c u : Int) (a1 : Option Addr) (n c1 : Nat) (xs : List Int) (a2 : Option Addr) (c2 : Nat) (h1 : IntsIn w.heap.size w a1 n xs) (h2 : IntsIn w.heap.size w a2 n xs) :
    Calls Try.prog 117 #[.agg #[.int .i64 r, .int .i64 c, .int .i64 u, .slice a1 n c1], .agg #[.int .i64 r, .int .i64 c, .int .i64 u, .slice a2 n c2]] w fun e w' => e = .returned (.bool true) ∧ Below w.heap.size w w' := by
  have ha := ((Below.refl w.heap.size w).alloc (Nat.le_refl _) (.cells #[.int .i64 r, .int .i64 c, .int .i64 u, .slice a1 n c1] 120 (0, 0))).alloc (by simp) (.cells #[.int .i64 r, .int .i64 c, .int .i64 u, .slice a2 n c2] 120 (0, 0))
  have hs := ha.size
  have H := Lib.hid (eqIntS_same _ a1 n c1 xs a2 c2 ((h1.below ha (Nat.le_refl _)).le hs) ((h2.below ha (Nat.le_refl _)).le hs))
  have HA := Lib.hid ha
  clear h1 h2 ha hs
  go_enter Try.func117, Try.ntmps117
  go_wp2_with fail
  refine H.out.mono ?_
  rintro e w' ⟨rfl, hb⟩
  have HB := Lib.hid (HA.out.trans (hb.mono HA.out.size))
  clear hb
  go_wp2_with fail
  go_ret
  exact ⟨rfl, HB.out⟩
end Go.Proofs.Ytcooobnaocbdjaa
