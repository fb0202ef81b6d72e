/-
  The program's functions on rows of numbers.
-/
import Derived.Test.YtbjiomnhdeehpaaDoorThrough
namespace Go.Proofs.YtbjiomnhdeehpaaDoor
open Go.RowKit
set_option linter.unusedVariables false

theorem eg_add : ∀ args w, (callFunc 25 args).run Tryd.prog w = .ok (.enter 25 args) w := enters_of Tryd.func25 (by kernel_rfl) rfl
theorem eg_sub : ∀ args w, (callFunc 21 args).run Tryd.prog w = .ok (.enter 21 args) w := enters_of Tryd.func21 (by kernel_rfl) rfl
theorem eg_dot : ∀ args w, (callFunc 23 args).run Tryd.prog w = .ok (.enter 23 args) w := enters_of Tryd.func23 (by kernel_rfl) rfl
theorem dotStep_any (s x y : Int) (w : World) (hg : LaidE w) :
    Calls Tryd.prog 23 #[.int .i64 s, .int .i64 x, .int .i64 y] w fun e w' => e = .returned (.tuple #[.int .i64 (dotF s x y), .bool (dotG s x y)]) ∧ Below w.heap.size w w' := by
  have HG := Lib.hid hg
  have hlt := hg.lt
  clear hg
  obtain ⟨p, hp⟩ : ∃ p, mulN x y = p := ⟨_, rfl⟩
  obtain ⟨o, ho⟩ : ∃ o, mulB x y = o := ⟨_, rfl⟩
  have HM := Lib.hid (fun w h => implFixMul_any x y w h)
  rw [hp, ho] at HM
  unfold dotF dotG
  rw [hp, ho]
  clear hp ho
  cases o
  · go_enter Tryd.func23, Tryd.ntmps23
    go_wp2_with fail
    refine (HM.out _ HG.out).mono ?_
    rintro e w1 ⟨rfl, hb⟩
    go_wp2_with fail
    refine (implFixAdd_any s p _ (HG.out.below hlt hb)).mono ?_
    rintro e w2 ⟨rfl, hb2⟩
    go_wp2_with fail
    go_ret2
    exact ⟨rfl, hb.trans (hb2.mono hb.size)⟩
  · go_enter Tryd.func23, Tryd.ntmps23
    go_wp2_with fail
    refine (HM.out _ HG.out).mono ?_
    rintro e w1 ⟨rfl, hb⟩
    go_wp2_with fail
    refine (implFixAdd_any s p _ (HG.out.below hlt hb)).mono ?_
    rintro e w2 ⟨rfl, hb2⟩
    go_wp2_with fail
    go_ret2
    exact ⟨rfl, hb.trans (hb2.mono hb.size)⟩

/-- What a function that makes a row and a mark leaves. -/
def RowB (w : World) (zs : List Int) (o : Bool) (e : Ending) (w' : World) : Prop := ∃ v, e = .returned (.tuple #[v, .bool o]) ∧ Row w.heap.size w' v zs ∧ Below w.heap.size w w'
/-- What a function that makes a row leaves. -/
def RowV (w : World) (zs : List Int) (e : Ending) (w' : World) : Prop := ∃ v, e = .returned v ∧ Row w.heap.size w' v zs ∧ Below w.heap.size w w'
/-- What a function that makes a number and a mark leaves. -/
def NumB (w : World) (x : Int) (o : Bool) (e : Ending) (w' : World) : Prop := e = .returned (.tuple #[.int .i64 x, .bool o]) ∧ Below w.heap.size w w'

set_option maxRecDepth 100000 in
theorem implVecSub_any (w : World) (a1 : Option Addr) (n1 c1 : Nat) (xs : List Int) (a2 : Option Addr) (n2 c2 : Nat) (ys : List Int) (h1 : IntsIn w.heap.size w a1 n1 xs) (h2 : IntsIn w.heap.size w a2 n2 ys) (hg : LaidE w) :
    Calls Tryd.prog 13 #[.slice a1 n1 c1, .slice a2 n2 c2] w (RowB w (rowP subN xs ys) (flagP subB xs ys)) := by
  have hlt := hg.lt
  have H := Lib.hid (oneByOne_any w a1 n1 c1 xs a2 n2 c2 ys 21 #[] subN subB eg_sub (fun wr x y hb => by rw [Array.append_empty]; exact implFixSub_any x y wr (hg.below hlt hb)) h1 h2)
  clear h1 h2 hg hlt
  go_enter Tryd.func13, Tryd.ntmps13
  go_wp2_with fail
  refine H.out.mono ?_
  rintro e w1 ⟨v, rfl, hr, hb⟩
  go_wp2_with fail
  go_ret2
  exact ⟨_, rfl, hr, hb⟩
set_option maxRecDepth 100000 in
theorem implVecDot_any (w : World) (a1 : Option Addr) (n1 c1 : Nat) (xs : List Int) (a2 : Option Addr) (n2 c2 : Nat) (ys : List Int) (h1 : IntsIn w.heap.size w a1 n1 xs) (h2 : IntsIn w.heap.size w a2 n2 ys) (hg : LaidE w) :
    Calls Tryd.prog 14 #[.slice a1 n1 c1, .slice a2 n2 c2] w (NumB w (dotN xs ys) (dotB xs ys)) := by
  cases hp : pairB xs ys with
  | false =>
    rw [dotN_no hp, dotB_no hp]
    have HN := Lib.hid (throughInt_no w a1 n1 c1 xs a2 n2 c2 ys (.func (.func 23) #[] #[]) h1 h2 hp)
    clear h1 h2 hp hg
    go_enter Tryd.func14, Tryd.ntmps14
    go_wp2_with fail
    refine HN.out.mono ?_
    rintro e w1 ⟨rfl, rfl⟩
    go_wp2_with fail
    go_ret2
    exact ⟨rfl, Below.refl _ _⟩
  | true =>
    obtain ⟨hp1, hp2, hl⟩ := pairB_has hp
    have hlt := hg.lt
    rw [dotN_yes hp, dotB_yes hp, h1.len]
    have hnn : n1 = n2 := by rw [← h1.len, ← h2.len]; exact hl
    subst hnn
    have HY := Lib.hid (throughInt_yes w a1 n1 c1 xs a2 c2 ys 23 #[] dotF dotG eg_dot (fun wr s x y hb => by rw [Array.append_empty]; exact (dotStep_any s x y wr (hg.below hlt hb)).mono fun e w' ⟨he, hb'⟩ => ⟨he, hb'.mono hb.size⟩) h1 h2 hp1 hp2)
    clear h1 h2 hp hg hp1 hp2 hl hlt
    go_enter Tryd.func14, Tryd.ntmps14
    go_wp2_with fail
    refine HY.out.mono ?_
    rintro e w1 ⟨rfl, hb⟩
    go_wp2_with fail
    go_ret2
    exact ⟨rfl, hb⟩
end Go.Proofs.YtbjiomnhdeehpaaDoor
