import Derived.Test.YtpnifgpmleaohaaGreatDoorJoin5
import Derived.Deep.QuietTactic
import Derived.BigQuiet
import Derived.Test.YtpnifgpmleaohaaGreatDoorJoin4
import Derived.Laws.ResultCell
/-! YtpnifgpmleaohaaGreatDoorZVecI -/
section

namespace Go.Proofs.YtpnifgpmleaohaaGreatDoor
open Go.RowKit
set_option linter.unusedVariables false

theorem eg_add : ∀ args w, (callFunc 101 args).run Tryz.prog w = .ok (.enter 101 args) w := enters_of Tryz.func101 (by kernel_rfl) rfl
theorem eg_sub : ∀ args w, (callFunc 170 args).run Tryz.prog w = .ok (.enter 170 args) w := enters_of Tryz.func170 (by kernel_rfl) rfl
theorem eg_scale : ∀ args w, (callFunc 289 args).run Tryz.prog w = .ok (.enter 289 args) w := enters_of Tryz.func289 (by kernel_rfl) rfl
theorem eg_dot : ∀ args w, (callFunc 210 args).run Tryz.prog w = .ok (.enter 210 args) w := enters_of Tryz.func210 (by kernel_rfl) rfl
theorem eg_relu : ∀ args w, (callFunc 297 args).run Tryz.prog w = .ok (.enter 297 args) w := enters_of Tryz.func297 (by kernel_rfl) rfl
theorem eg_mask : ∀ args w, (callFunc 299 args).run Tryz.prog w = .ok (.enter 299 args) w := enters_of Tryz.func299 (by kernel_rfl) rfl

theorem maskStep_any (x y : Int) (w : World) :
    Calls Tryz.prog 299 #[.int .i64 x, .int .i64 y] w fun e w' => e = .returned (.tuple #[.int .i64 (maskN x y), .bool false]) ∧ Below w.heap.size w w' := by
  by_cases h : 0 < x
  · rw [maskN_yes y h]
    have ht : decide (x > 0) = true := decide_eq_true h
    go_enter Tryz.func299, Tryz.ntmps299
    go_wp2_with fail
    go_ret2
    exact ⟨rfl, Below.refl _ _⟩
  · rw [maskN_no y h]
    have ht : decide (x > 0) = false := decide_eq_false h
    go_enter Tryz.func299, Tryz.ntmps299
    go_wp2_with fail
    go_ret2
    exact ⟨rfl, Below.refl _ _⟩
theorem reluStep_any (x y : Int) (w : World) (hg : LaidE w) :
    Calls Tryz.prog 297 #[.int .i64 x, .int .i64 y] w fun e w' => e = .returned (.tuple #[.int .i64 (reluN x), .bool false]) ∧ Below w.heap.size w w' := by
  have HG := Lib.hid hg
  clear hg
  go_enter Tryz.func297, Tryz.ntmps297
  go_wp2_with fail
  refine (implRelu_any x _ HG.out).mono ?_
  rintro e w1 ⟨rfl, hb⟩
  go_wp2_with fail
  go_ret2
  exact ⟨rfl, hb⟩
theorem scaleStep_any (D : Nat) (c x y : Int) (w : World) (hD : w.cell? ⟨D, 0, none⟩ = some (.int .i64 c)) (hg : LaidE w) :
    Calls Tryz.prog 289 #[.int .i64 x, .int .i64 y, .pointer (some ⟨D, 0, none⟩)] w fun e w' => e = .returned (.tuple #[.int .i64 (mulN c x), .bool (mulB c x)]) ∧ Below w.heap.size w w' := by
  have HG := Lib.hid hg
  clear hg
  go_enter Tryz.func289, Tryz.ntmps289
  go_wp2_with fail
  refine (implFixMul_any c x _ HG.out).mono ?_
  rintro e w1 ⟨rfl, hb⟩
  go_wp2_with fail
  go_ret2
  exact ⟨rfl, hb⟩
theorem dotStep_any (s x y : Int) (w : World) (hg : LaidE w) :
    Calls Tryz.prog 210 #[.int .i64 s, .int .i64 x, .int .i64 y] w fun e w' => e = .returned (.tuple #[.int .i64 (dotF s x y), .bool (dotG s x y)]) ∧ Below w.heap.size w w' := by
  have HG := Lib.hid hg
  have hlt := hg.lt
  clear hg
  obtain ⟨p, hp⟩ : ∃ p, mulN x y = p := ⟨_, rfl⟩
  obtain ⟨o, ho⟩ : ∃ o, mulB x y = o := ⟨_, rfl⟩
  have HM := Lib.hid (fun w h => implFixMul_any x y w h)
  rw [hp, ho] at HM
  unfold dotF dotG
  rw [hp, ho]
  clear hp ho
  cases o
  · go_enter Tryz.func210, Tryz.ntmps210
    go_wp2_with fail
    refine (HM.out _ HG.out).mono ?_
    rintro e w1 ⟨rfl, hb⟩
    go_wp2_with fail
    refine (implFixAdd_any s p _ (HG.out.below hlt hb)).mono ?_
    rintro e w2 ⟨rfl, hb2⟩
    go_wp2_with fail
    go_ret2
    exact ⟨rfl, hb.trans (hb2.mono hb.size)⟩
  · go_enter Tryz.func210, Tryz.ntmps210
    go_wp2_with fail
    refine (HM.out _ HG.out).mono ?_
    rintro e w1 ⟨rfl, hb⟩
    go_wp2_with fail
    refine (implFixAdd_any s p _ (HG.out.below hlt hb)).mono ?_
    rintro e w2 ⟨rfl, hb2⟩
    go_wp2_with fail
    go_ret2
    exact ⟨rfl, hb.trans (hb2.mono hb.size)⟩

/-- What a function that makes a row and a mark leaves. -/
def RowB (w : World) (zs : List Int) (o : Bool) (e : Ending) (w' : World) : Prop := ∃ v, e = .returned (.tuple #[v, .bool o]) ∧ Row w.heap.size w' v zs ∧ Below w.heap.size w w'
/-- What a function that makes a row leaves. -/
def RowV (w : World) (zs : List Int) (e : Ending) (w' : World) : Prop := ∃ v, e = .returned v ∧ Row w.heap.size w' v zs ∧ Below w.heap.size w w'
/-- What a function that makes a number and a mark leaves. -/
def NumB (w : World) (x : Int) (o : Bool) (e : Ending) (w' : World) : Prop := e = .returned (.tuple #[.int .i64 x, .bool o]) ∧ Below w.heap.size w w'

set_option maxRecDepth 100000 in
theorem implVecAdd_any (w : World) (a1 : Option Addr) (n1 c1 : Nat) (xs : List Int) (a2 : Option Addr) (n2 c2 : Nat) (ys : List Int) (h1 : IntsIn w.heap.size w a1 n1 xs) (h2 : IntsIn w.heap.size w a2 n2 ys) (hg : LaidE w) :
    Calls Tryz.prog 292 #[.slice a1 n1 c1, .slice a2 n2 c2] w (RowB w (rowP addN xs ys) (flagP addB xs ys)) := by
  have hlt := hg.lt
  have H := Lib.hid (oneByOne_any w a1 n1 c1 xs a2 n2 c2 ys 101 #[] addN addB eg_add (fun wr x y hb => by rw [Array.append_empty]; exact implFixAdd_any x y wr (hg.below hlt hb)) h1 h2)
  clear h1 h2 hg hlt
  go_enter Tryz.func292, Tryz.ntmps292
  go_wp2_with fail
  refine H.out.mono ?_
  rintro e w1 ⟨v, rfl, hr, hb⟩
  go_wp2_with fail
  go_ret2
  exact ⟨_, rfl, hr, hb⟩
set_option maxRecDepth 100000 in
theorem implVecSub_any (w : World) (a1 : Option Addr) (n1 c1 : Nat) (xs : List Int) (a2 : Option Addr) (n2 c2 : Nat) (ys : List Int) (h1 : IntsIn w.heap.size w a1 n1 xs) (h2 : IntsIn w.heap.size w a2 n2 ys) (hg : LaidE w) :
    Calls Tryz.prog 104 #[.slice a1 n1 c1, .slice a2 n2 c2] w (RowB w (rowP subN xs ys) (flagP subB xs ys)) := by
  have hlt := hg.lt
  have H := Lib.hid (oneByOne_any w a1 n1 c1 xs a2 n2 c2 ys 170 #[] subN subB eg_sub (fun wr x y hb => by rw [Array.append_empty]; exact implFixSub_any x y wr (hg.below hlt hb)) h1 h2)
  clear h1 h2 hg hlt
  go_enter Tryz.func104, Tryz.ntmps104
  go_wp2_with fail
  refine H.out.mono ?_
  rintro e w1 ⟨v, rfl, hr, hb⟩
  go_wp2_with fail
  go_ret2
  exact ⟨_, rfl, hr, hb⟩
set_option maxRecDepth 100000 in
theorem implVecRelu_any (w : World) (a1 : Option Addr) (n1 c1 : Nat) (xs : List Int) (h1 : IntsIn w.heap.size w a1 n1 xs) (hg : LaidE w) :
    Calls Tryz.prog 295 #[.slice a1 n1 c1] w (RowV w (rowP (fun x _ => reluN x) xs xs)) := by
  have hlt := hg.lt
  have H := Lib.hid (oneByOne_any w a1 n1 c1 xs a1 n1 c1 xs 297 #[] (fun x _ => reluN x) (fun _ _ => false) eg_relu (fun wr x y hb => by rw [Array.append_empty]; exact reluStep_any x y wr (hg.below hlt hb)) h1 h1)
  clear h1 hg hlt
  go_enter Tryz.func295, Tryz.ntmps295
  go_wp2_with fail
  refine H.out.mono ?_
  rintro e w1 ⟨v, rfl, hr, hb⟩
  go_wp2_with fail
  go_ret
  exact ⟨_, rfl, hr, hb⟩
set_option maxRecDepth 100000 in
theorem implVecMask_any (w : World) (a1 : Option Addr) (n1 c1 : Nat) (xs : List Int) (a2 : Option Addr) (n2 c2 : Nat) (ys : List Int) (h1 : IntsIn w.heap.size w a1 n1 xs) (h2 : IntsIn w.heap.size w a2 n2 ys) :
    Calls Tryz.prog 296 #[.slice a1 n1 c1, .slice a2 n2 c2] w (RowV w (rowP maskN xs ys)) := by
  have H := Lib.hid (oneByOne_any w a1 n1 c1 xs a2 n2 c2 ys 299 #[] maskN (fun _ _ => false) eg_mask (fun wr x y hb => by rw [Array.append_empty]; exact maskStep_any x y wr) h1 h2)
  clear h1 h2
  go_enter Tryz.func296, Tryz.ntmps296
  go_wp2_with fail
  refine H.out.mono ?_
  rintro e w1 ⟨v, rfl, hr, hb⟩
  go_wp2_with fail
  go_ret
  exact ⟨_, rfl, hr, hb⟩
set_option maxRecDepth 100000 in
theorem implVecScale_any (c : Int) (w : World) (a1 : Option Addr) (n1 c1 : Nat) (xs : List Int) (h1 : IntsIn w.heap.size w a1 n1 xs) (hg : LaidE w) :
    Calls Tryz.prog 287 #[.int .i64 c, .slice a1 n1 c1] w (RowB w (scaleN c xs) (scaleB c xs)) := by
  have hal : Below w.heap.size w (w.alloc (.cells #[.int .i64 c] 3)) := (Below.refl _ _).alloc (Nat.le_refl _) _
  have hsz : (w.alloc (.cells #[.int .i64 c] 3)).heap.size = w.heap.size + 1 := by simp
  have hD : (w.alloc (.cells #[.int .i64 c] 3)).cell? ⟨w.heap.size, 0, none⟩ = some (.int .i64 c) := by
    rw [cell_of_row _ _ _ _ _ _ (heap_alloc_new w _)]
    rfl
  have hlt := hg.lt
  have k1 := (h1.below hal (Nat.le_refl _)).le hal.size
  have hg1 : LaidE (w.alloc (.cells #[.int .i64 c] 3)) := hg.below hlt hal
  have hlt1 := hg1.lt
  have HF := Lib.hid (fun w => implFixOk_any c w)
  have H := Lib.hid (oneByOne_any _ a1 n1 c1 xs a1 n1 c1 xs 289 #[.pointer (some ⟨w.heap.size, 0, none⟩)] (fun x _ => mulN c x) (fun x _ => mulB c x) eg_scale
    (fun wr x y hb => scaleStep_any w.heap.size c x y wr ((hb.cell (p := ⟨w.heap.size, 0, none⟩) (by rw [hsz]; exact Nat.lt_succ_self _)).trans hD) (hg1.below hlt1 hb)) k1 k1)
  unfold scaleN scaleB
  have HA := Lib.hid hal
  obtain ⟨o, ho⟩ : ∃ o, okB c = o := ⟨_, rfl⟩
  rw [ho]
  rw [ho] at HF
  clear h1 hg hlt k1 hg1 hlt1 hal hsz ho hD
  cases o
  · go_enter Tryz.func287, Tryz.ntmps287
    go_wp2_with fail
    refine (HF.out _).mono ?_
    rintro e w1 ⟨rfl, rfl⟩
    go_wp2_with fail
    go_ret2
    exact ⟨_, rfl, Row.nil _ _, HA.out⟩
  · go_enter Tryz.func287, Tryz.ntmps287
    go_wp2_with fail
    refine (HF.out _).mono ?_
    rintro e w1 ⟨rfl, rfl⟩
    go_wp2_with fail
    refine H.out.mono ?_
    rintro e w1 ⟨v, rfl, hr, hb⟩
    go_wp2_with fail
    go_ret2
    exact ⟨_, rfl, hr.le HA.out.size, HA.out.trans (hb.mono HA.out.size)⟩
set_option maxRecDepth 100000 in
theorem implVecDot_any (w : World) (a1 : Option Addr) (n1 c1 : Nat) (xs : List Int) (a2 : Option Addr) (n2 c2 : Nat) (ys : List Int) (h1 : IntsIn w.heap.size w a1 n1 xs) (h2 : IntsIn w.heap.size w a2 n2 ys) (hg : LaidE w) :
    Calls Tryz.prog 168 #[.slice a1 n1 c1, .slice a2 n2 c2] w (NumB w (dotN xs ys) (dotB xs ys)) := by
  cases hp : pairB xs ys with
  | false =>
    rw [dotN_no hp, dotB_no hp]
    have HN := Lib.hid (throughInt_no w a1 n1 c1 xs a2 n2 c2 ys (.func (.func 210) #[] #[]) h1 h2 hp)
    clear h1 h2 hp hg
    go_enter Tryz.func168, Tryz.ntmps168
    go_wp2_with fail
    refine HN.out.mono ?_
    rintro e w1 ⟨rfl, rfl⟩
    go_wp2_with fail
    go_ret2
    exact ⟨rfl, Below.refl _ _⟩
  | true =>
    obtain ⟨hp1, hp2, hl⟩ := pairB_has hp
    have hlt := hg.lt
    rw [dotN_yes hp, dotB_yes hp, h1.len]
    have hnn : n1 = n2 := by rw [← h1.len, ← h2.len]; exact hl
    subst hnn
    have HY := Lib.hid (throughInt_yes w a1 n1 c1 xs a2 c2 ys 210 #[] dotF dotG eg_dot (fun wr s x y hb => by rw [Array.append_empty]; exact (dotStep_any s x y wr (hg.below hlt hb)).mono fun e w' ⟨he, hb'⟩ => ⟨he, hb'.mono hb.size⟩) h1 h2 hp1 hp2)
    clear h1 h2 hp hg hp1 hp2 hl hlt
    go_enter Tryz.func168, Tryz.ntmps168
    go_wp2_with fail
    refine HY.out.mono ?_
    rintro e w1 ⟨rfl, hb⟩
    go_wp2_with fail
    go_ret2
    exact ⟨rfl, hb⟩
end Go.Proofs.YtpnifgpmleaohaaGreatDoor

end

/-! YtpnifgpmleaohaaGreatDoorZVecS -/
section

namespace Go.Proofs.YtpnifgpmleaohaaGreatDoor
open Go.RowKit
set_option linter.unusedVariables false

theorem Row.empty (w : World) (o : Obj) (h : o = .cells #[] 3 (0, 0)) : Row w.heap.size (w.alloc o) (.slice (some ⟨w.heap.size, 0, none⟩) 0 0) [] := by
  subst h
  exact ⟨rfl, .inr ⟨_, 0, #[], rfl, Nat.le_refl _, heap_alloc_new w _, Nat.le_refl _, Nat.zero_le _, rfl, rfl⟩⟩
theorem Row.drewN {base : Nat} {w : World} {v : Value} {zs : List Int} (h : Row base w v zs) (m : Nat) : Row base (w.drewN m) v zs := h.below ⟨rfl, rfl, rfl, Nat.le_refl _, fun _ _ => rfl⟩

end Go.Proofs.YtpnifgpmleaohaaGreatDoor

end

/-! YtpnifgpmleaohaaGreatDoorZMatS -/
section

namespace Go.Proofs.YtpnifgpmleaohaaGreatDoor
open Go.RowKit
set_option linter.unusedVariables false

theorem prod36 {r c : Int} (hr : inB 1 6 r = true) (hc : inB 1 6 c = true) : 1 ≤ r * c ∧ r * c ≤ 36 := by
  obtain ⟨a0, a1⟩ := inB_has hr
  obtain ⟨b0, b1⟩ := inB_has hc
  have h : r = 1 ∨ r = 2 ∨ r = 3 ∨ r = 4 ∨ r = 5 ∨ r = 6 := by omega
  rcases h with rfl | rfl | rfl | rfl | rfl | rfl <;> omega
theorem Row.form2 {base : Nat} {w : World} {v : Value} {n : Nat} {xs : List Int} (h : Row base w v xs) (hl : Hid (xs.length = n)) (hr : n ≤ 1048576) : ∃ a cap, v = .slice a n cap ∧ n ≤ cap ∧ IntsIn w.heap.size w a n xs := by
  obtain ⟨a, c, e, hi⟩ := h.form' hl hr
  subst e
  refine ⟨a, c, rfl, ?_, hi⟩
  have hl := hl.out
  rcases h.2 with ⟨e1, h0⟩ | ⟨g, cap, cur, e1, _, _, hc, _⟩
  · cases e1; omega
  · cases e1; omega

end Go.Proofs.YtpnifgpmleaohaaGreatDoor

end

/-! YtpnifgpmleaohaaGreatDoorZMatW -/
section

namespace Go.Proofs.YtpnifgpmleaohaaGreatDoor
open Go.RowKit
set_option linter.unusedVariables false

/-- What a function that makes a table (and a mark) leaves. -/
def MatB (w : World) (r c : Int) (zs : List Int) (o : Bool) (e : Ending) (w' : World) : Prop := ∃ v, e = .returned (.tuple #[.agg #[.int .i64 r, .int .i64 c, v], .bool o]) ∧ Row w.heap.size w' v zs ∧ Below w.heap.size w w'
def MatV (w : World) (r c : Int) (zs : List Int) (e : Ending) (w' : World) : Prop := ∃ v, e = .returned (.agg #[.int .i64 r, .int .i64 c, v]) ∧ Row w.heap.size w' v zs ∧ Below w.heap.size w w'
def sameMatB (r c : Int) (xs : List Int) (r' c' : Int) (ys : List Int) : Bool := decide (r = r') && (decide (c = c') && decide (xs = ys))

theorem own_form {w : World} {base : Nat} {e : TypeId} {v : Value} {n : Nat} {xs : List Value} (h : w.ownsRow base e 1 v n xs) : ∃ a c, v = .slice a n c := by
  rcases h.2 with ⟨rfl, rfl⟩ | ⟨g, cap, cur, rfl, _⟩
  · exact ⟨_, _, rfl⟩
  · exact ⟨_, _, rfl⟩
theorem results_row_tmp {P : Program} {fn : Func} {p u : Tmp} {ty : TypeId} (h : fn.results = #[.cell p ty, .tmp u]) (tmps : Array Value) (w : World) (g : Nat) (t : TypeId) (cs : Array Value) (fr : Nat × Nat) (d : TypeDesc)
    (hp : tmps.getD p undef = .pointer (some ⟨g, 0, none⟩)) (hg : w.heap[g]? = some (.cells cs t fr))
    (hu : P.underlying ty = some d) (hd : (match d with | .struct _ | .array _ _ => true | _ => false) = true) (hi : (P.info? ty).map (·.size) = some cs.size) :
    (results fn tmps).run P w = .ok (.tuple #[.agg cs, tmps.getD u undef]) w := by
  rw [results_cell_tmp h, hp]
  simp [asAddr, run_loadVar_row w g t ty cs fr d hg hu hd hi, Result.andThen]

end Go.Proofs.YtpnifgpmleaohaaGreatDoor

end
