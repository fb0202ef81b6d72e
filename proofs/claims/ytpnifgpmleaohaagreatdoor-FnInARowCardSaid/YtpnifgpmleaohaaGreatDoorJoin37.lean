import Derived.Test.YtpnifgpmleaohaaGreatDoorRows
import Derived.Test.YtpnifgpmleaohaaGreatDoorJoin2
import Derived.LaidLaws
import Derived.LaidHandle
import Derived.LaidSub
import Derived.Test.YtpnifgpmleaohaaGreatDoorJoin34
import Derived.Test.YtpnifgpmleaohaaGreatDoorJoin33
/-! YtpnifgpmleaohaaGreatDoorZLaidE -/
section

namespace Go.Proofs.YtpnifgpmleaohaaGreatDoor
open Go.RowKit

theorem gErrT : Tryz.prog.globalNamed "errors.errorType" = some 0 := by kernel_rfl
theorem gRtype : (Tryz.prog.cutTypes.find? (·.1 == "internal/reflectlite.rtype")).map (·.2) = some 294 := by kernel_rfl
theorem oneErrRow : ((List.range 348).filter fun t => Tryz.prog.rowNamed t [101, 114, 114, 111, 114]) = [233] := by kernel_rfl
theorem typesSize : Tryz.prog.types.size = 348 := by kernel_rfl
theorem laidE_of {l : List (String × DataW Unit)} {W : World} (h : laidMetH Tryz.prog l W) (hm : ("errors.errorType", Rows.laid_errors_errorType) ∈ l) : LaidE W := by
  have h2 := (laidMetH_iff.1 h).2
  obtain ⟨name, u, ty, e1, e2, e3, e4, e5⟩ := h2 ("errors.errorType", Rows.laid_errors_errorType) (List.mem_filter.2 ⟨hm, rfl⟩)
  have en : name = [101, 114, 114, 111, 114] := (Option.some.inj e1).symm
  subst en
  obtain rfl := Option.some.inj (gRtype.symm.trans e2)
  have hmm : ty ∈ (List.range 348).filter fun t => Tryz.prog.rowNamed t [101, 114, 114, 111, 114] := List.mem_filter.2 ⟨List.mem_range.2 (by rw [← typesSize]; exact e3), e4⟩
  rw [oneErrRow] at hmm
  obtain rfl := List.mem_singleton.1 hmm
  have hh : typeHandle Tryz.prog 233 = .pointer (some ⟨1, 233, none⟩) := by kernel_rfl
  rw [hh] at e5
  have := World.var?_cell gErrT e5 0
  unfold LaidE
  simpa using this
end Go.Proofs.YtpnifgpmleaohaaGreatDoor

end

/-! YtpnifgpmleaohaaGreatDoorZLossI -/
section

namespace Go.Proofs.YtpnifgpmleaohaaGreatDoor
open Go.RowKit
set_option linter.unusedVariables false

set_option maxRecDepth 100000 in
theorem implLossOf_any (w : World) (a1 : Option Addr) (n1 c1 : Nat) (xs : List Int) (a2 : Option Addr) (n2 c2 : Nat) (ys : List Int) (h1 : IntsIn w.heap.size w a1 n1 xs) (h2 : IntsIn w.heap.size w a2 n2 ys) (hg : LaidE w) :
    Calls Tryz.prog 103 #[.slice a1 n1 c1, .slice a2 n2 c2] w (NumB w (lossN xs ys) (lossB xs ys)) := by
  have H1 := Lib.hid (implVecSub_any w a1 n1 c1 xs a2 n2 c2 ys h1 h2 hg)
  have hlt := hg.lt
  have HG := Lib.hid hg
  clear h1 h2 hg
  have h6 := rowP_length subN xs ys
  obtain ⟨D, hD⟩ : ∃ D, rowP subN xs ys = D := ⟨_, rfl⟩
  obtain ⟨n, hn⟩ : ∃ n, D.length = n := ⟨_, rfl⟩
  obtain ⟨q, hq⟩ : ∃ q, dotN D D = q := ⟨_, rfl⟩
  obtain ⟨o, ho⟩ : ∃ o, dotB D D = o := ⟨_, rfl⟩
  obtain ⟨f, hf⟩ : ∃ f, flagP subB xs ys = f := ⟨_, rfl⟩
  have hq0 : 0 ≤ q := by rw [← hq]; exact dot_nonneg D
  have hq1 : q ≤ 2147483647 := by rw [← hq]; exact (dotN_range D D).2
  have ht := tdiv_two hq0 hq1
  have HV := fun (w : World) (a : Option Addr) (c : Nat) (h : IntsIn w.heap.size w a n D) (hg : LaidE w) => implVecDot_any w a n c D a n c D h h hg
  unfold lossN lossB
  rw [hD] at H1 h6 ⊢
  rw [hn] at h6
  rw [hf] at H1
  simp only [hq, ho] at HV
  rw [hq, ho, hf]
  obtain ⟨Q, hQ⟩ : ∃ Q, q / 2 = Q := ⟨_, rfl⟩
  rw [hQ] at ht ⊢
  obtain ⟨t1, t2⟩ := ht
  have t3 : wrap64 Q = Q := by rw [t2] at t1; exact t1
  have HN := Lib.hid hn
  replace HV := Lib.hid HV
  clear hD hn hq ho hf hq0 hq1 hQ
  cases f
  · go_enter Tryz.func103, Tryz.ntmps103
    go_wp2_with fail
    refine H1.out.mono ?_
    rintro e w1 ⟨v, rfl, hr, hb⟩
    obtain ⟨a, c, rfl, hi⟩ := hr.form' HN (by omega)
    have HI := Lib.hid hi
    have HB := Lib.hid hb
    clear hr hi hb
    go_wp2_with fail
    refine (HV.out w1 a c HI.out (HG.out.below hlt HB.out)).mono ?_
    rintro e w2 ⟨rfl, hb2⟩
    have HB2 := Lib.hid (HB.out.trans (hb2.mono HB.out.size))
    clear hb2
    go_wp2_with fail
    go_ret2
    exact ⟨by simp [t3], HB2.out⟩
  · go_enter Tryz.func103, Tryz.ntmps103
    go_wp2_with fail
    refine H1.out.mono ?_
    rintro e w1 ⟨v, rfl, hr, hb⟩
    obtain ⟨a, c, rfl, hi⟩ := hr.form' HN (by omega)
    have HI := Lib.hid hi
    have HB := Lib.hid hb
    clear hr hi hb
    go_wp2_with fail
    refine (HV.out w1 a c HI.out (HG.out.below hlt HB.out)).mono ?_
    rintro e w2 ⟨rfl, hb2⟩
    have HB2 := Lib.hid (HB.out.trans (hb2.mono HB.out.size))
    clear hb2
    go_wp2_with fail
    go_ret2
    exact ⟨by simp [t3], HB2.out⟩
end Go.Proofs.YtpnifgpmleaohaaGreatDoor

end
