/-
  A plan is right, and no more goes ahead than may: all of the two hundred, looked through. Of no program.
-/
import Derived.Test.YtikjhpljaanakaaPlanR
import Derived.Test.YtikjhpljaanakaaFly
namespace Go.Proofs.Ytikjhpljaanakaa
set_option linter.unusedVariables false

def implB (g : Nat → Int × Int) (kk : Nat → Int) (K M nb : Nat) : Bool :=
  ((List.range nb).all fun p => (List.range K).any fun k => decide (g p = (kk k, (cntG g (kk k) p : Int))) && decide (cntG g (kk k) p < prevG g kk M k p)) && decide (cntG g (kk (K - 1)) nb = M)
theorem implB_has {g : Nat → Int × Int} {kk : Nat → Int} {K M nb : Nat} (h : implB g kk K M nb = true) : ImplG g kk K M nb := by
  unfold implB at h
  simp only [Bool.and_eq_true, List.all_eq_true, List.any_eq_true, List.mem_range, decide_eq_true_eq] at h
  refine ⟨fun p hp => ?_, h.2⟩
  obtain ⟨k, h1, h2, h3⟩ := h.1 p hp
  exact ⟨k, h1, h2, h3⟩
def mostN (ds n s m : Int) : Int := if ds = 2 then min m (n - s) else m
def planCheck (ds n s m : Int) (r : Bool) : Bool :=
  let xs := planL ds n s m r
  decide (0 < xs.length) && (decide (gX xs (xs.length - 1) = (8, 0)) && (implB (gX xs) (kkX n s r) (kindsK n s r 1 7).length m.toNat (xs.length - 1) && (decide (flyM xs xs.length = mostN ds n s m) && (decide (0 ≤ warmN ds n s m) && decide (warmN ds n s m ≤ mostN ds n s m)))))
theorem plans_checked : ((List.range 2).all fun d => (List.range 4).all fun n => (List.range 4).all fun s => (List.range 5).all fun m =>
    !(decide (s < n + 1)) || (planCheck ((d : Int) + 1) ((n : Int) + 1) (s : Int) ((m : Int) + 1) true && planCheck ((d : Int) + 1) ((n : Int) + 1) (s : Int) ((m : Int) + 1) false)) = true := by decide +kernel
theorem plan_checked {ds n s m : Int} {r : Bool} (h : planB ds n s m = true) : planCheck ds n s m r = true := by
  obtain ⟨h0, ht⟩ := planB_has h
  obtain ⟨h1, h2, h3, h4, h5, h6⟩ := taskB_has ht
  have hd : 1 ≤ ds ∧ ds ≤ 2 := by omega
  have e := List.all_eq_true.1 (List.all_eq_true.1 (List.all_eq_true.1 (List.all_eq_true.1 plans_checked (ds - 1).toNat (List.mem_range.2 (by omega))) (n - 1).toNat (List.mem_range.2 (by omega))) s.toNat (List.mem_range.2 (by omega))) (m - 1).toNat (List.mem_range.2 (by omega))
  rw [show (((ds - 1).toNat : Int)) + 1 = ds by omega, show (((n - 1).toNat : Int)) + 1 = n by omega, show ((s.toNat : Int)) = s by omega, show (((m - 1).toNat : Int)) + 1 = m by omega] at e
  have e2 : decide (s.toNat < (n - 1).toNat + 1) = true := decide_eq_true (by omega)
  rw [e2] at e
  simp only [Bool.not_true, Bool.false_or, Bool.and_eq_true] at e
  cases r
  · exact e.2
  · exact e.1
theorem plan_right {ds n s m : Int} {r : Bool} (h : planB ds n s m = true) :
    PlanOkP (planL ds n s m r) n s m r ∧ flyM (planL ds n s m r) (planL ds n s m r).length = mostN ds n s m ∧ 0 ≤ warmN ds n s m ∧ warmN ds n s m ≤ mostN ds n s m := by
  have e := plan_checked (r := r) h
  unfold planCheck at e
  simp only [Bool.and_eq_true, decide_eq_true_eq] at e
  obtain ⟨e1, e2, e3, e4, e5, e6⟩ := e
  exact ⟨⟨(planB_has h).2, e1, e2, implB_has e3⟩, e4, e5, e6⟩
end Go.Proofs.Ytikjhpljaanakaa
