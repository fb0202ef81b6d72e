/-
  The program's functions on rows of numbers.
-/
import Derived.Test.YtdmkbmpgcpggdabDoorThrough
namespace Go.Proofs.YtdmkbmpgcpggdabDoor
open Go.RowKit
set_option linter.unusedVariables false

theorem eg_add : ∀ args w, (callFunc 33 args).run Tryd.prog w = .ok (.enter 33 args) w := enters_of Tryd.func33 (by kernel_rfl) rfl
theorem eg_sub : ∀ args w, (callFunc 46 args).run Tryd.prog w = .ok (.enter 46 args) w := enters_of Tryd.func46 (by kernel_rfl) rfl
theorem eg_scale : ∀ args w, (callFunc 49 args).run Tryd.prog w = .ok (.enter 49 args) w := enters_of Tryd.func49 (by kernel_rfl) rfl
theorem eg_dot : ∀ args w, (callFunc 42 args).run Tryd.prog w = .ok (.enter 42 args) w := enters_of Tryd.func42 (by kernel_rfl) rfl
theorem eg_relu : ∀ args w, (callFunc 35 args).run Tryd.prog w = .ok (.enter 35 args) w := enters_of Tryd.func35 (by kernel_rfl) rfl
theorem eg_mask : ∀ args w, (callFunc 34 args).run Tryd.prog w = .ok (.enter 34 args) w := enters_of Tryd.func34 (by kernel_rfl) rfl

theorem maskStep_any (x y : Int) (w : World) :
    Calls Tryd.prog 34 #[.int .i64 x, .int .i64 y] w fun e w' => e = .returned (.tuple #[.int .i64 (maskN x y), .bool false]) ∧ Below w.heap.size w w' := by
  by_cases h : 0 < x
  · rw [maskN_yes y h]
    have ht : decide (x > 0) = true := decide_eq_true h
    go_enter Tryd.func34, Tryd.ntmps34
    go_wp2_with fail
    go_ret2
    exact ⟨rfl, Below.refl _ _⟩
  · rw [maskN_no y h]
    have ht : decide (x > 0) = false := decide_eq_false h
    go_enter Tryd.func34, Tryd.ntmps34
    go_wp2_with fail
    go_ret2
    exact ⟨rfl, Below.refl _ _⟩
theorem reluStep_any (x y : Int) (w : World) (hg : LaidE w) :
    Calls Tryd.prog 35 #[.int .i64 x, .int .i64 y] w fun e w' => e = .returned (.tuple #[.int .i64 (reluN x), .bool false]) ∧ Below w.heap.size w w' := by
  have HG := Lib.hid hg
  clear hg
  go_enter Tryd.func35, Tryd.ntmps35
  go_wp2_with fail
  refine (implRelu_any x _ HG.out).mono ?_
  rintro e w1 ⟨rfl, hb⟩
  go_wp2_with fail
  go_ret2
  exact ⟨rfl, hb⟩
theorem scaleStep_any (D : Nat) (c x y : Int) (w : World) (hD : w.cell? ⟨D, 0, none⟩ = some (.int .i64 c)) (hg : LaidE w) :
    Calls Tryd.prog 49 #[.int .i64 x, .int .i64 y, .pointer (some ⟨D, 0, none⟩)] w fun e w' => e = .returned (.tuple #[.int .i64 (mulN c x), .bool (mulB c x)]) ∧ Below w.heap.size w w' := by
  have HG := Lib.hid hg
  clear hg
  go_enter Tryd.func49, Tryd.ntmps49
  go_wp2_with fail
  refine (implFixMul_any c x _ HG.out).mono ?_
  rintro e w1 ⟨rfl, hb⟩
  go_wp2_with fail
  go_ret2
  exact ⟨rfl, hb⟩
theorem dotStep_any (s x y : Int) (w : World) (hg : LaidE w) :
    Calls Tryd.prog 42 #[.int .i64 s, .int .i64 x, .int .i64 y] w fun e w' => e = .returned (.tuple #[.int .i64 (dotF s x y), .bool (dotG s x y)]) ∧ Below w.heap.size w w' := by
  have HG := Lib.hid hg
  have hlt := hg.lt
  clear hg
  obtain ⟨p, hp⟩ : ∃ p, mulN x y = p := ⟨_, rfl⟩
  obtain ⟨o, ho⟩ : ∃ o, mulB x y = o := ⟨_, rfl⟩
  have HM := Lib.hid (fun w h => implFixMul_any x y w h)
  rw [hp, ho] at HM
  unfold dotF dotG
  rw [hp, ho]
  clear hp ho
  cases o
  · go_enter Tryd.func42, Tryd.ntmps42
    go_wp2_with fail
    refine (HM.out _ HG.out).mono ?_
    rintro e w1 ⟨rfl, hb⟩
    go_wp2_with fail
    refine (implFixAdd_any s p _ (HG.out.below hlt hb)).mono ?_
    rintro e w2 ⟨rfl, hb2⟩
    go_wp2_with fail
    go_ret2
    exact ⟨rfl, hb.trans (hb2.mono hb.size)⟩
  · go_enter Tryd.func42, Tryd.ntmps42
    go_wp2_with fail
    refine (HM.out _ HG.out).mono ?_
    rintro e w1 ⟨rfl, hb⟩
    go_wp2_with fail
    refine (implFixAdd_any s p _ (HG.out.below hlt hb)).mono ?_
    rintro e w2 ⟨rfl, hb2⟩
    go_wp2_with fail
    go_ret2
    exact ⟨rfl, hb.trans (hb2.mono hb.size)⟩

/-- What a function that makes a row and a mark leaves. -/
def RowB (w : World) (zs : List Int) (o : Bool) (e : Ending) (w' : World) : Prop := ∃ v, e = .returned (.tuple #[v, .bool o]) ∧ Row w.heap.size w' v zs ∧ Below w.heap.size w w'
/-- What a function that makes a row leaves. -/
def RowV (w : World) (zs : List Int) (e : Ending) (w' : World) : Prop := ∃ v, e = .returned v ∧ Row w.heap.size w' v zs ∧ Below w.heap.size w w'
/-- What a function that makes a number and a mark leaves. -/
def NumB (w : World) (x : Int) (o : Bool) (e : Ending) (w' : World) : Prop := e = .returned (.tuple #[.int .i64 x, .bool o]) ∧ Below w.heap.size w w'

set_option maxRecDepth 100000 in
theorem implVecAdd_any (w : World) (a1 : Option Addr) (n1 c1 : Nat) (xs : List Int) (a2 : Option Addr) (n2 c2 : Nat) (ys : List Int) (h1 : IntsIn w.heap.size w a1 n1 xs) (h2 : IntsIn w.heap.size w a2 n2 ys) (hg : LaidE w) :
    Calls Tryd.prog 11 #[.slice a1 n1 c1, .slice a2 n2 c2] w (RowB w (rowP addN xs ys) (flagP addB xs ys)) := by
  have hlt := hg.lt
  have H := Lib.hid (oneByOne_any w a1 n1 c1 xs a2 n2 c2 ys 33 #[] addN addB eg_add (fun wr x y hb => by rw [Array.append_empty]; exact implFixAdd_any x y wr (hg.below hlt hb)) h1 h2)
  clear h1 h2 hg hlt
  go_enter Tryd.func11, Tryd.ntmps11
  go_wp2_with fail
  refine H.out.mono ?_
  rintro e w1 ⟨v, rfl, hr, hb⟩
  go_wp2_with fail
  go_ret2
  exact ⟨_, rfl, hr, hb⟩
set_option maxRecDepth 100000 in
theorem implVecSub_any (w : World) (a1 : Option Addr) (n1 c1 : Nat) (xs : List Int) (a2 : Option Addr) (n2 c2 : Nat) (ys : List Int) (h1 : IntsIn w.heap.size w a1 n1 xs) (h2 : IntsIn w.heap.size w a2 n2 ys) (hg : LaidE w) :
    Calls Tryd.prog 25 #[.slice a1 n1 c1, .slice a2 n2 c2] w (RowB w (rowP subN xs ys) (flagP subB xs ys)) := by
  have hlt := hg.lt
  have H := Lib.hid (oneByOne_any w a1 n1 c1 xs a2 n2 c2 ys 46 #[] subN subB eg_sub (fun wr x y hb => by rw [Array.append_empty]; exact implFixSub_any x y wr (hg.below hlt hb)) h1 h2)
  clear h1 h2 hg hlt
  go_enter Tryd.func25, Tryd.ntmps25
  go_wp2_with fail
  refine H.out.mono ?_
  rintro e w1 ⟨v, rfl, hr, hb⟩
  go_wp2_with fail
  go_ret2
  exact ⟨_, rfl, hr, hb⟩
set_option maxRecDepth 100000 in
theorem implVecRelu_any (w : World) (a1 : Option Addr) (n1 c1 : Nat) (xs : List Int) (h1 : IntsIn w.heap.size w a1 n1 xs) (hg : LaidE w) :
    Calls Tryd.prog 13 #[.slice a1 n1 c1] w (RowV w (rowP (fun x _ => reluN x) xs xs)) := by
  have hlt := hg.lt
  have H := Lib.hid (oneByOne_any w a1 n1 c1 xs a1 n1 c1 xs 35 #[] (fun x _ => reluN x) (fun _ _ => false) eg_relu (fun wr x y hb => by rw [Array.append_empty]; exact reluStep_any x y wr (hg.below hlt hb)) h1 h1)
  clear h1 hg hlt
  go_enter Tryd.func13, Tryd.ntmps13
  go_wp2_with fail
  refine H.out.mono ?_
  rintro e w1 ⟨v, rfl, hr, hb⟩
  go_wp2_with fail
  go_ret
  exact ⟨_, rfl, hr, hb⟩
set_option maxRecDepth 100000 in
theorem implVecMask_any (w : World) (a1 : Option Addr) (n1 c1 : Nat) (xs : List Int) (a2 : Option Addr) (n2 c2 : Nat) (ys : List Int) (h1 : IntsIn w.heap.size w a1 n1 xs) (h2 : IntsIn w.heap.size w a2 n2 ys) :
    Calls Tryd.prog 12 #[.slice a1 n1 c1, .slice a2 n2 c2] w (RowV w (rowP maskN xs ys)) := by
  have H := Lib.hid (oneByOne_any w a1 n1 c1 xs a2 n2 c2 ys 34 #[] maskN (fun _ _ => false) eg_mask (fun wr x y hb => by rw [Array.append_empty]; exact maskStep_any x y wr) h1 h2)
  clear h1 h2
  go_enter Tryd.func12, Tryd.ntmps12
  go_wp2_with fail
  refine H.out.mono ?_
  rintro e w1 ⟨v, rfl, hr, hb⟩
  go_wp2_with fail
  go_ret
  exact ⟨_, rfl, hr, hb⟩
set_option maxRecDepth 100000 in
theorem implVecScale_any (c : Int) (w : World) (a1 : Option Addr) (n1 c1 : Nat) (xs : List Int) (h1 : IntsIn w.heap.size w a1 n1 xs) (hg : LaidE w) :
    Calls Tryd.prog 27 #[.int .i64 c, .slice a1 n1 c1] w (RowB w (scaleN c xs) (scaleB c xs)) := by
  have hal : Below w.heap.size w (w.alloc (.cells #[.int .i64 c] 3)) := (Below.refl _ _).alloc (Nat.le_refl _) _
  have hsz : (w.alloc (.cells #[.int .i64 c] 3)).heap.size = w.heap.size + 1 := by simp
  have hD : (w.alloc (.cells #[.int .i64 c] 3)).cell? ⟨w.heap.size, 0, none⟩ = some (.int .i64 c) := by
    rw [cell_of_row _ _ _ _ _ _ (heap_alloc_new w _)]
    rfl
  have hlt := hg.lt
  have k1 := (h1.below hal (Nat.le_refl _)).le hal.size
  have hg1 : LaidE (w.alloc (.cells #[.int .i64 c] 3)) := hg.below hlt hal
  have hlt1 := hg1.lt
  have HF := Lib.hid (fun w => implFixOk_any c w)
  have H := Lib.hid (oneByOne_any _ a1 n1 c1 xs a1 n1 c1 xs 49 #[.pointer (some ⟨w.heap.size, 0, none⟩)] (fun x _ => mulN c x) (fun x _ => mulB c x) eg_scale
    (fun wr x y hb => scaleStep_any w.heap.size c x y wr ((hb.cell (p := ⟨w.heap.size, 0, none⟩) (by rw [hsz]; exact Nat.lt_succ_self _)).trans hD) (hg1.below hlt1 hb)) k1 k1)
  unfold scaleN scaleB
  have HA := Lib.hid hal
  obtain ⟨o, ho⟩ : ∃ o, okB c = o := ⟨_, rfl⟩
  rw [ho]
  rw [ho] at HF
  clear h1 hg hlt k1 hg1 hlt1 hal hsz ho hD
  cases o
  · go_enter Tryd.func27, Tryd.ntmps27
    go_wp2_with fail
    refine (HF.out _).mono ?_
    rintro e w1 ⟨rfl, rfl⟩
    go_wp2_with fail
    go_ret2
    exact ⟨_, rfl, Row.nil _ _, HA.out⟩
  · go_enter Tryd.func27, Tryd.ntmps27
    go_wp2_with fail
    refine (HF.out _).mono ?_
    rintro e w1 ⟨rfl, rfl⟩
    go_wp2_with fail
    refine H.out.mono ?_
    rintro e w1 ⟨v, rfl, hr, hb⟩
    go_wp2_with fail
    go_ret2
    exact ⟨_, rfl, hr.le HA.out.size, HA.out.trans (hb.mono HA.out.size)⟩
set_option maxRecDepth 100000 in
theorem implVecDot_any (w : World) (a1 : Option Addr) (n1 c1 : Nat) (xs : List Int) (a2 : Option Addr) (n2 c2 : Nat) (ys : List Int) (h1 : IntsIn w.heap.size w a1 n1 xs) (h2 : IntsIn w.heap.size w a2 n2 ys) (hg : LaidE w) :
    Calls Tryd.prog 18 #[.slice a1 n1 c1, .slice a2 n2 c2] w (NumB w (dotN xs ys) (dotB xs ys)) := by
  cases hp : pairB xs ys with
  | false =>
    rw [dotN_no hp, dotB_no hp]
    have HN := Lib.hid (throughInt_no w a1 n1 c1 xs a2 n2 c2 ys (.func (.func 42) #[] #[]) h1 h2 hp)
    clear h1 h2 hp hg
    go_enter Tryd.func18, Tryd.ntmps18
    go_wp2_with fail
    refine HN.out.mono ?_
    rintro e w1 ⟨rfl, rfl⟩
    go_wp2_with fail
    go_ret2
    exact ⟨rfl, Below.refl _ _⟩
  | true =>
    obtain ⟨hp1, hp2, hl⟩ := pairB_has hp
    have hlt := hg.lt
    rw [dotN_yes hp, dotB_yes hp, h1.len]
    have hnn : n1 = n2 := by rw [← h1.len, ← h2.len]; exact hl
    subst hnn
    have HY := Lib.hid (throughInt_yes w a1 n1 c1 xs a2 c2 ys 42 #[] dotF dotG eg_dot (fun wr s x y hb => by rw [Array.append_empty]; exact (dotStep_any s x y wr (hg.below hlt hb)).mono fun e w' ⟨he, hb'⟩ => ⟨he, hb'.mono hb.size⟩) h1 h2 hp1 hp2)
    clear h1 h2 hp hg hp1 hp2 hl hlt
    go_enter Tryd.func18, Tryd.ntmps18
    go_wp2_with fail
    refine HY.out.mono ?_
    rintro e w1 ⟨rfl, hb⟩
    go_wp2_with fail
    go_ret2
    exact ⟨rfl, hb⟩
end Go.Proofs.YtdmkbmpgcpggdabDoor
