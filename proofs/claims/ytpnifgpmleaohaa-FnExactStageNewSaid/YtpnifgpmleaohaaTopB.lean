import Derived.Test.YtpnifgpmleaohaaPutQ
import Derived.Test.YtpnifgpmleaohaaTwo
import Derived.Maps.Own
import Derived.Deep.QuietTactic
import Derived.BigQuiet
import Derived.OrdersHeld
import Derived.Test.YtpnifgpmleaohaaStgS
import Derived.Test.YtpnifgpmleaohaaOwnT
import Derived.Test.YtpnifgpmleaohaaTopA
import Derived.Test.YtpnifgpmleaohaaModD
import Derived.Deep.RegionHeld3
import Derived.Test.YtpnifgpmleaohaaModI
import Derived.Test.YtpnifgpmleaohaaOwn
import Derived.Test.YtpnifgpmleaohaaOpen
import Derived.Deep.DeepCutAuto
import Derived.Deep.RegionLaw
/-! YtpnifgpmleaohaaKeepL -/
section

namespace Go.Proofs.Ytpnifgpmleaohaa
open Go.RowKit
set_option linter.unusedVariables false

theorem ListL.keepB {α : Type} {S : Owned α} {T : TypeId} {lo hi : Nat} {w w' : World} {v : Value} {xs : List α} (h : ListL S T lo hi w v xs) (hk : ∀ b, lo ≤ b → b < hi → w'.heap[b]? = w.heap[b]?) (hs : hi ≤ w'.heap.size) : ListL S T lo hi w' v xs := by
  obtain ⟨us, G, h1, h2, h3, h4, h5⟩ := h.all
  refine ⟨hs, us, G, ⟨h1.1, h1.2.imp id ?_⟩, h2, fun j x hx => ?_, h4, h5⟩
  · rintro ⟨g, cap, cur, rfl, e1, e2, e3⟩
    exact ⟨g, cap, cur, rfl, e1, (hk g e1 (h2 g rfl)).trans e2, e3⟩
  · obtain ⟨es, q1, q2⟩ := h3 j x hx
    refine ⟨es, q1, S.owns_keep q2 fun b o f => ?_⟩
    have q := h4 j b o f
    have e := hk b q.1 q.2.1
    exact ⟨World.cell?_of_block (a := ⟨b, o, none⟩) e, World.frozen?_of_block (a := ⟨b, o, none⟩) e⟩
theorem ListL.far {α : Type} {S : Owned α} {T : TypeId} {lo hi : Nat} {w : World} {v : Value} {xs : List α} (h : ListL S T lo hi w v xs) (g i : Nat) (u : Value) (hg : hi ≤ g) : ListL S T lo hi (w.setCell ⟨g, i, none⟩ u) v xs :=
  h.keepB (fun b _ hb => heap_setCell_other _ _ _ _ (by show b ≠ g; omega)) (by simpa using h.top)
theorem plain_of_step {P : Program} {ops : Array Oper} {rest : List Oper} {o : Oper} {a : Act} {w : World} {Q : Exit → Act → World → Prop} (hg : o.guard = none)
    (h : ∀ K : Act → World → Prop, (∀ a' w', wpList P ops Q rest a' w' → K a' w') → Oper.wp P o a w K Q) : wpList P ops Q (o :: rest) a w :=
  wpList_plain hg h
theorem two_cellsAt {B : Nat} {w : World} {ad : Addr} {m : Nat} {ys : List dTwo} (h : TwoIn B w (some ad) m ys) : ∀ j u, (tcells ys)[j]? = some u → w.cell? (ad.add j) = some u := fun j u hu => by
  have hj : j < ys.length * 2 := by have := (List.getElem?_eq_some_iff.1 hu).1; rwa [tcells_length] at this
  obtain ⟨b, o, e, -, hc0, hc1⟩ := h.cells (j / 2) (by rw [← h.len]; omega)
  cases e
  rw [Addr.add_mid]
  rcases Nat.mod_two_eq_zero_or_one j with hm | hm
  · have hjj : j = j / 2 * 2 := by omega
    rw [hjj, tcells_get0 ys (j / 2) (by omega)] at hu
    cases hu
    rw [hjj]
    have e2 : j / 2 * 2 / 2 = j / 2 := by omega
    rw [e2]
    exact hc0
  · have hjj : j = j / 2 * 2 + 1 := by omega
    rw [hjj, tcells_get1 ys (j / 2) (by omega)] at hu
    cases hu
    rw [hjj]
    have e2 : (j / 2 * 2 + 1) / 2 = j / 2 := by omega
    rw [e2]
    exact hc1
theorem TwoIn.nil {B : Nat} {w : World} {m : Nat} {ys : List dTwo} (h : TwoIn B w none m ys) : m = 0 ∧ ys = [] := by
  have hm : m = 0 := by
    rcases Nat.eq_zero_or_pos m with e | e
    · exact e
    · obtain ⟨b, o', e', -⟩ := h.cells 0 e
      cases e'
  subst hm
  exact ⟨rfl, List.eq_nil_of_length_eq_zero h.len⟩
theorem step_append_two (w : World) {T Ts : TypeId} {ops : Array Oper} {o : Oper} {a : Act} {K : Act → World → Prop} {Q : Exit → Act → World → Prop} {E : Prop} (hgd : o.guard = none) (s x : Operand)
    (ho : o.op = .call { callee := .builtin .append, args := #[s, x], argTypes := #[Ts, Ts] }) (i : TypeInfo) (z : Value) (ht : Try.prog.underlying Ts = some (.slice T)) (hi : Try.prog.info? T = some i) (hz : i.zero = some z) (hsize : i.size = 2) (hby : i.bytes = 16) (hzs : z.cells.size = 2)
    (base : Nat) (v : Value) (xs : List dTwo) (hs : a.eval s = v) (hown : TwoR T base w v xs)
    (ad : Option Addr) (m c B : Nat) (ys : List dTwo) (hx : a.eval x = .slice ad m c) (hin : TwoIn B w ad m ys) (hlen : xs.length ≤ 1048576) (hbase : base ≤ w.heap.size)
    (h : ∀ ar nr cr w', TwoR T base w' (.slice ar nr cr) (xs ++ ys) → w.grownBy w' v.ownBlock → K (a.put o.dst (.slice ar nr cr)) w') :
    if Region.wanted o (yielded ops a.tmps) = true then Oper.wp Try.prog o a w K Q else E := by
  have hw : Region.wanted o (yielded ops a.tmps) = true := by simp [Region.wanted, hgd]
  rw [if_pos hw]
  have hm := hin.room
  cases ad with
  | none =>
    obtain ⟨rfl, rfl⟩ := hin.nil
    rw [List.append_nil] at h
    have hv : v = .slice none 0 0 ∨ ∃ g n cap, v = .slice (some ⟨g, 0, none⟩) n cap ∧ n ≤ cap := by
      rcases hown.2 with ⟨e, -⟩ | ⟨g, cap, cur, e, -, -, hc, -⟩
      · exact .inl e
      · exact .inr ⟨g, _, cap, e, hc⟩
    rcases hv with rfl | ⟨g, n, cap, rfl, hc⟩
    · have hr := run_append_empty_none (P := Try.prog) w Ts o.type T i ht hi c
      unfold Oper.wp execOp
      simp only [ho, resolve, invoke, builtin, Sem.run_bind, Sem.run_pure, Result.andThen_ok, List.map_toArray, List.map_cons, List.map_nil, hs, hx, hr]
      exact h _ _ _ w hown (World.grownBy.refl _ _)
    · have hr := run_append_empty (P := Try.prog) w Ts o.type T i ht hi g n cap c hc
      unfold Oper.wp execOp
      simp only [ho, resolve, invoke, builtin, Sem.run_bind, Sem.run_pure, Result.andThen_ok, List.map_toArray, List.map_cons, List.map_nil, hs, hx, hr]
      exact h _ _ _ w hown (World.grownBy.refl _ _)
  | some ad =>
    refine wp_append_own w s x Ts ho base T i z 2 16 ht hi hz hsize hby hzs (by decide) v xs.length (tcells xs) hs hown ad m c (tcells ys) hx (by rw [tcells_length, hin.len]) (two_cellsAt hin) tcells_one (by unfold maxLen; omega) (by omega) hbase ?_
    intro v' w' hown' hg _
    have hr : TwoR T base w' v' (xs ++ ys) := by
      unfold TwoR
      rw [List.length_append, tcells_append, hin.len]
      exact hown'
    obtain ⟨ar, cr, e, -⟩ := hr.form
    subst e
    exact h _ _ _ w' hr hg
end Go.Proofs.Ytpnifgpmleaohaa

end

/-! YtpnifgpmleaohaaCloneA -/
section

namespace Go.Proofs.Ytpnifgpmleaohaa
open Go.RowKit
set_option linter.unusedVariables false
set_option linter.unusedSimpArgs false

theorem clone_some (ad : Addr) (n c : Nat) (w : World) : (binOp .eql 30 (.slice (some ad) n c) (.slice none 0 0)).run Try.prog w = .ok (.bool false) w := by kernel_rfl
theorem clone_none (n c : Nat) (w : World) : (binOp .eql 30 (.slice none n c) (.slice none 0 0)).run Try.prog w = .ok (.bool true) w := by kernel_rfl
theorem owns_emptyQ (w : World) : (w.alloc (.cells #[] 3 (0, 0))).ownsRow w.heap.size 3 1 (.slice (some ⟨w.heap.size, 0, none⟩) 0 0) 0 [] :=
  ⟨by simp, .inr ⟨w.heap.size, 0, #[], rfl, Nat.le_refl _, heap_alloc_new w _, Nat.le_refl _, Nat.zero_le _, by simp, by simp⟩⟩
theorem row_firstQ {base : Nat} {w : World} {v : Value} {n : Nat} {ds : List Int} (h : w.ownsRow base 3 1 v (0 + n) ([] ++ icells ds)) : Row base w v ds := by
  rw [List.nil_append, Nat.zero_add] at h
  have hn : n = ds.length := by have := h.1; rw [icells_length] at this; omega
  subst hn
  exact h
set_option maxRecDepth 100000 in
/-- A copy of numbers, of a nil row too. -/
theorem implCloneAll_o (w : World) (a : Option Addr) (n c : Nat) (ds : List Int) (h : IntsIn w.heap.size w a n ds) :
    Calls Try.prog 86 #[.slice a n c] w fun e w' => ∃ ar cr, e = .returned (.slice ar n cr) ∧ Row w.heap.size w' (.slice ar n cr) ds ∧ Below w.heap.size w w' := by
  obtain ⟨i0, hi0, hz0, hz1, hz2⟩ := info_parts Try.infoI64
  have hl := h.len
  have hroom := h.room
  cases a with
  | none =>
    obtain rfl : n = 0 := by
      rcases Nat.eq_zero_or_pos n with e | e
      · exact e
      · obtain ⟨b, o', e', -⟩ := h.cells 0 e
        cases e'
    obtain rfl : ds = [] := List.eq_nil_of_length_eq_zero hl
    have hnn := clone_none 0 c
    clear h hl
    go_enter Try.func86, Try.ntmps86
    go_wp2_with fail
    go_ret
    exact ⟨none, 0, rfl, Row.nil _ _, Below.refl _ _⟩
  | some ad =>
    have hnn := clone_some ad n c
    have HY := Lib.hid h
    have HL := Lib.hid hl
    clear h hl
    go_enter Try.func86, Try.ntmps86
    go_wp2_with (at_builtin; refine wpList_append_own _ rfl _ _ 30 rfl w.heap.size 3 i0 (.int .i64 0) 1 8 Try.underlying30 hi0 hz0 hz1 hz2 rfl (by decide) _ _ _ rfl (owns_emptyQ w) ad n c (icells ds) rfl (by rw [icells_length, HL.out, Nat.mul_one]) (ints_cellsAt (HY.out.below ((Below.refl w.heap.size w).alloc (Nat.le_refl _) _) (by omega))) ints_oneCell (by unfold maxLen; omega) (by omega) (by simp) ?_; intro v2 w2 hown hgrow _; have hr := row_firstQ hown; have hb := ((Below.refl w.heap.size w).alloc (Nat.le_refl _) (.cells #[] 3 (0, 0))).grown hgrow (by simp) (fun k e => by cases e; exact Nat.le_refl _); have HR := Lib.hid hr; have HB := Lib.hid hb; clear hown hgrow hr hb)
    go_ret
    obtain ⟨ar, cr, rfl, -⟩ := HR.out.form
    have hr := HR.out
    rw [HL.out] at hr
    exact ⟨ar, cr, by rw [HL.out]; rfl, hr, HB.out⟩
end Go.Proofs.Ytpnifgpmleaohaa

end

/-! YtpnifgpmleaohaaHeldK -/
section

namespace Go.Proofs.Ytpnifgpmleaohaa
open Go
section
variable {P : Program} {ops : Array Oper} {Q : Exit → Act → World → Prop} {md : Region.Mode} {S : World → Prop}
/-- Operation j waits for every other operation of its region. -/
def LastOp (md : Region.Mode) (ops : Array Oper) (j : Nat) : Prop := ∃ oj, ops[j]? = some oj ∧ ∀ i, i < ops.size → i ≠ j → ∃ e ∈ oj.after, Region.binds md e = true ∧ e.on = i
/-- Every order, S behind each operation but one that waits for all. -/
def AnyK (P : Program) (md : Region.Mode) (ops : Array Oper) (Q : Exit → Act → World → Prop) (S : World → Prop) : Nat → Array Bool → Act → World → Prop
  | 0, listed, a, w => Region.ready md ops listed = [] ∧ Q .normal a w
  | fuel + 1, listed, a, w => (Region.ready md ops listed = [] → Q .normal a w) ∧
    ∀ i ∈ Region.ready md ops listed, wpOp P ops Q i (fun a' w' => (LastOp md ops i ∨ S w') ∧ AnyK P md ops Q S fuel (listed.setIfInBounds i true) a' w') a w
theorem any_of_K : ∀ (fuel : Nat) (listed : Array Bool) (a : Act) (w : World), AnyK P md ops Q S fuel listed a w → wpAny P md ops Q fuel listed a w
  | 0, _, _, _, h => h
  | fuel + 1, _, _, _, h => ⟨h.1, fun i hi => wpOp_mono (fun a' w' h' => any_of_K fuel _ a' w' h'.2) (h.2 i hi)⟩
theorem anyK_first {i : Nat} {oi : Oper} {v : Value} (hi : ops[i]? = some oi) (hsel : ∀ (j : Nat) (o : Oper) cs b, ops[j]? = some o → o.op ≠ .select cs b)
    (hQ : ∀ c a w, Q (.panic c) (a.put oi.dst v) w → Q (.panic c) a w) :
    ∀ (fuel : Nat) (listed : Array Bool) (a : Act) (w : World),
      (∀ j oj, ops[j]? = some oj → j ≠ i → listed.getD j true = false → (∀ e ∈ oj.after, Region.binds md e = true → e.on ≠ i) → oi.apart ops oj = true) →
      i ∈ Region.ready md ops listed → YieldsIf P ops S oi v a → S w →
      AnyK P md ops Q S fuel (listed.setIfInBounds i true) (a.put oi.dst v) w → AnyK P md ops Q S (fuel + 1) listed a w := by
  intro fuel
  induction fuel with
  | zero =>
    intro listed a w _ hr hy hS H
    refine ⟨fun h => absurd hr (by rw [h]; exact List.not_mem_nil), fun j hj => ?_⟩
    by_cases hji : j = i
    · subst hji
      exact hy.wpOp hi hS ⟨.inr hS, H⟩
    · exact absurd (ready_mono hj hji) (by rw [H.1]; exact List.not_mem_nil)
  | succ fuel ih =>
    intro listed a w hfree hr hy hS H
    refine ⟨fun h => absurd hr (by rw [h]; exact List.not_mem_nil), fun j hj => ?_⟩
    by_cases hji : j = i
    · subst hji
      exact hy.wpOp hi hS ⟨.inr hS, H⟩
    · obtain ⟨hjun, oj, hoj, hall⟩ := mem_ready.1 hj
      have hun : listed[i]?.getD true = true → False := fun h => by
        have h0 := (mem_ready.1 hr).1
        simp_all
      have hnot : ∀ e ∈ oj.after, Region.binds md e = true → e.on ≠ i := fun e he hb heq => by
        have h1 := hall e he hb
        have h0 := (mem_ready.1 hr).1
        rw [heq] at h1
        rcases Nat.lt_or_ge i listed.size with h' | h'
        · simp [h'] at h0 h1
          rw [h0] at h1
          cases h1
        · simp [Array.getElem?_eq_none h'] at h1
      have hnl : ¬ LastOp md ops j := fun ⟨o, ho, hw⟩ => by
        have hoo : oj = o := Option.some.inj (hoj.symm.trans ho)
        subst hoo
        obtain ⟨e, he, hb, hon⟩ := hw i (Array.getElem?_eq_some_iff.1 hi).1 (fun e => hji e.symm)
        exact hnot e he hb hon
      have h2 := wpOp_putIf hoj (hfree j oj hoj hji hjun hnot) (fun cs b => hsel i oi cs b hi) (fun cs b => hsel j oj cs b hoj) hQ hy (H.2 j (ready_mono hj hji))
      refine wpOp_mono (fun a' w' h3 => ?_) h2
      have hS' : S w' := h3.2.1.resolve_left hnl
      refine ⟨.inr hS', ih (listed.setIfInBounds j true) a' w' (fun k ok hk hki hun hno => hfree k ok hk hki ?_ hno) (ready_mono hr (Ne.symm hji)) h3.1 hS' ?_⟩
      · by_cases hjk : j = k
        · subst hjk
          exact hjun
        · rw [getD_set_ne true hjk] at hun
          exact hun
      · rw [Array.setIfInBounds_comm _ _ hji]
        exact h3.2.2
/-- Take operation i first. -/
theorem anyK_take {i : Nat} {oi : Oper} {v : Value} {fuel : Nat} {listed : Array Bool} {a : Act} {w : World} (hi : ops[i]? = some oi)
    (hs : Region.noSelect ops = true) (hf : Region.free md ops listed i = true) (hr : (Region.ready md ops listed).contains i = true)
    (hQ : ∀ c a w, Q (.panic c) (a.put oi.dst v) w → Q (.panic c) a w) (hy : YieldsIf P ops S oi v a) (hS : S w)
    (h : AnyK P md ops Q S fuel (listed.setIfInBounds i true) (a.put oi.dst v) w) : AnyK P md ops Q S (fuel + 1) listed a w :=
  anyK_first hi (Region.noSelect_spec hs) hQ fuel listed a w (Region.free_spec hi hf) (by simpa using hr) hy hS h
/-- One operation alone may come up. -/
theorem anyK_one {i : Nat} {fuel : Nat} {listed : Array Bool} {a : Act} {w : World} (hr : Region.ready md ops listed = [i])
    (h : wpOp P ops Q i (fun a' w' => (LastOp md ops i ∨ S w') ∧ AnyK P md ops Q S fuel (listed.setIfInBounds i true) a' w') a w) : AnyK P md ops Q S (fuel + 1) listed a w := by
  refine ⟨fun h0 => ?_, fun j hj => ?_⟩
  · rw [hr] at h0
    cases h0
  · rw [hr] at hj
    rw [List.mem_singleton.1 hj]
    exact h
/-- One operation alone may come up, and is wanted. -/
theorem anyK_step {i : Nat} {o : Oper} {fuel : Nat} {listed : Array Bool} {a : Act} {w : World} (hr : Region.ready md ops listed = [i]) (ho : ops[i]? = some o) (hw : Region.wanted o (yielded ops a.tmps) = true)
    (h : ∀ K : Act → World → Prop, (∀ a' w', (LastOp md ops i ∨ S w') → AnyK P md ops Q S fuel (listed.setIfInBounds i true) a' w' → K a' w') → Oper.wp P o a w K Q) : AnyK P md ops Q S (fuel + 1) listed a w :=
  anyK_one hr (by
    unfold wpOp
    simp only [ho, hw, if_true]
    exact .inl (h _ fun a' w' h1 h2 => ⟨h1, h2⟩))
theorem anyK_done {listed : Array Bool} {a : Act} {w : World} (hr : Region.ready md ops listed = []) (h : Q .normal a w) : ∀ fuel, AnyK P md ops Q S fuel listed a w
  | 0 => ⟨hr, h⟩
  | _ + 1 => ⟨fun _ => h, by rw [hr]; simp⟩
theorem wp_region_K {id : Nat} {a : Act} {w : World} (hm : P.follows .mixedOrders = true)
    (h : AnyK P .any ops Q S ops.size (Array.replicate ops.size false) a { w with drawn := w.drawn + 1 }) : (Code.region id ops true).wp P Q a w :=
  wp_region_any hm (any_of_K _ _ _ _ h)
/-- Whether operation j waits for every other, as a Bool. -/
def lastB (md : Region.Mode) (ops : Array Oper) (j : Nat) : Bool :=
  match ops[j]? with
  | some oj => (List.range ops.size).all fun i => decide (i = j) || oj.after.any fun e => Region.binds md e && decide (e.on = i)
  | none => false
theorem last_of {j : Nat} (h : lastB md ops j = true) : LastOp md ops j := by
  unfold lastB at h
  split at h
  · rename_i oj hoj
    refine ⟨oj, hoj, fun i hi hne => ?_⟩
    have h1 := List.all_eq_true.1 h i (List.mem_range.2 hi)
    simp only [Bool.or_eq_true, decide_eq_true_eq, Array.any_eq_true] at h1
    rcases h1 with h1 | ⟨k, hk, h1⟩
    · exact absurd h1 hne
    · simp only [Bool.and_eq_true, decide_eq_true_eq] at h1
      exact ⟨_, Array.getElem_mem hk, h1.1, h1.2⟩
  · cases h
end
end Go.Proofs.Ytpnifgpmleaohaa

end

/-! YtpnifgpmleaohaaHeldL -/
section

namespace Go.Proofs.Ytpnifgpmleaohaa
open Go
section
variable {P : Program} {ops : Array Oper} {Q : Exit → Act → World → Prop} {md : Region.Mode} {S : World → Prop} {Z : List Nat}
/-- Operation j waits for every other operation of its region, but for those of Z. -/
def LateOp (md : Region.Mode) (ops : Array Oper) (Z : List Nat) (j : Nat) : Prop := ∃ oj, ops[j]? = some oj ∧ ∀ i, i < ops.size → i ∉ Z → i ≠ j → ∃ e ∈ oj.after, Region.binds md e = true ∧ e.on = i
/-- Every order, S behind each operation but one that waits for all. -/
def AnyZ (P : Program) (md : Region.Mode) (ops : Array Oper) (Q : Exit → Act → World → Prop) (S : World → Prop) (Z : List Nat) : Nat → Array Bool → Act → World → Prop
  | 0, listed, a, w => Region.ready md ops listed = [] ∧ Q .normal a w
  | fuel + 1, listed, a, w => (Region.ready md ops listed = [] → Q .normal a w) ∧
    ∀ i ∈ Region.ready md ops listed, wpOp P ops Q i (fun a' w' => (LateOp md ops Z i ∨ S w') ∧ AnyZ P md ops Q S Z fuel (listed.setIfInBounds i true) a' w') a w
theorem any_of_Z : ∀ (fuel : Nat) (listed : Array Bool) (a : Act) (w : World), AnyZ P md ops Q S Z fuel listed a w → wpAny P md ops Q fuel listed a w
  | 0, _, _, _, h => h
  | fuel + 1, _, _, _, h => ⟨h.1, fun i hi => wpOp_mono (fun a' w' h' => any_of_Z fuel _ a' w' h'.2) (h.2 i hi)⟩
theorem anyZ_first {i : Nat} {oi : Oper} {v : Value} (hi : ops[i]? = some oi) (hz : i ∉ Z) (hsel : ∀ (j : Nat) (o : Oper) cs b, ops[j]? = some o → o.op ≠ .select cs b)
    (hQ : ∀ c a w, Q (.panic c) (a.put oi.dst v) w → Q (.panic c) a w) :
    ∀ (fuel : Nat) (listed : Array Bool) (a : Act) (w : World),
      (∀ j oj, ops[j]? = some oj → j ≠ i → listed.getD j true = false → (∀ e ∈ oj.after, Region.binds md e = true → e.on ≠ i) → oi.apart ops oj = true) →
      i ∈ Region.ready md ops listed → YieldsIf P ops S oi v a → S w →
      AnyZ P md ops Q S Z fuel (listed.setIfInBounds i true) (a.put oi.dst v) w → AnyZ P md ops Q S Z (fuel + 1) listed a w := by
  intro fuel
  induction fuel with
  | zero =>
    intro listed a w _ hr hy hS H
    refine ⟨fun h => absurd hr (by rw [h]; exact List.not_mem_nil), fun j hj => ?_⟩
    by_cases hji : j = i
    · subst hji
      exact hy.wpOp hi hS ⟨.inr hS, H⟩
    · exact absurd (ready_mono hj hji) (by rw [H.1]; exact List.not_mem_nil)
  | succ fuel ih =>
    intro listed a w hfree hr hy hS H
    refine ⟨fun h => absurd hr (by rw [h]; exact List.not_mem_nil), fun j hj => ?_⟩
    by_cases hji : j = i
    · subst hji
      exact hy.wpOp hi hS ⟨.inr hS, H⟩
    · obtain ⟨hjun, oj, hoj, hall⟩ := mem_ready.1 hj
      have hun : listed[i]?.getD true = true → False := fun h => by
        have h0 := (mem_ready.1 hr).1
        simp_all
      have hnot : ∀ e ∈ oj.after, Region.binds md e = true → e.on ≠ i := fun e he hb heq => by
        have h1 := hall e he hb
        have h0 := (mem_ready.1 hr).1
        rw [heq] at h1
        rcases Nat.lt_or_ge i listed.size with h' | h'
        · simp [h'] at h0 h1
          rw [h0] at h1
          cases h1
        · simp [Array.getElem?_eq_none h'] at h1
      have hnl : ¬ LateOp md ops Z j := fun ⟨o, ho, hw⟩ => by
        have hoo : oj = o := Option.some.inj (hoj.symm.trans ho)
        subst hoo
        obtain ⟨e, he, hb, hon⟩ := hw i (Array.getElem?_eq_some_iff.1 hi).1 hz (fun e => hji e.symm)
        exact hnot e he hb hon
      have h2 := wpOp_putIf hoj (hfree j oj hoj hji hjun hnot) (fun cs b => hsel i oi cs b hi) (fun cs b => hsel j oj cs b hoj) hQ hy (H.2 j (ready_mono hj hji))
      refine wpOp_mono (fun a' w' h3 => ?_) h2
      have hS' : S w' := h3.2.1.resolve_left hnl
      refine ⟨.inr hS', ih (listed.setIfInBounds j true) a' w' (fun k ok hk hki hun hno => hfree k ok hk hki ?_ hno) (ready_mono hr (Ne.symm hji)) h3.1 hS' ?_⟩
      · by_cases hjk : j = k
        · subst hjk
          exact hjun
        · rw [getD_set_ne true hjk] at hun
          exact hun
      · rw [Array.setIfInBounds_comm _ _ hji]
        exact h3.2.2
/-- Take operation i first. -/
theorem anyZ_take {i : Nat} {oi : Oper} {v : Value} {fuel : Nat} {listed : Array Bool} {a : Act} {w : World} (hi : ops[i]? = some oi) (hz : i ∉ Z)
    (hs : Region.noSelect ops = true) (hf : Region.free md ops listed i = true) (hr : (Region.ready md ops listed).contains i = true)
    (hQ : ∀ c a w, Q (.panic c) (a.put oi.dst v) w → Q (.panic c) a w) (hy : YieldsIf P ops S oi v a) (hS : S w)
    (h : AnyZ P md ops Q S Z fuel (listed.setIfInBounds i true) (a.put oi.dst v) w) : AnyZ P md ops Q S Z (fuel + 1) listed a w :=
  anyZ_first hi hz (Region.noSelect_spec hs) hQ fuel listed a w (Region.free_spec hi hf) (by simpa using hr) hy hS h
/-- One operation alone may come up. -/
theorem anyZ_one {i : Nat} {fuel : Nat} {listed : Array Bool} {a : Act} {w : World} (hr : Region.ready md ops listed = [i])
    (h : wpOp P ops Q i (fun a' w' => (LateOp md ops Z i ∨ S w') ∧ AnyZ P md ops Q S Z fuel (listed.setIfInBounds i true) a' w') a w) : AnyZ P md ops Q S Z (fuel + 1) listed a w := by
  refine ⟨fun h0 => ?_, fun j hj => ?_⟩
  · rw [hr] at h0
    cases h0
  · rw [hr] at hj
    rw [List.mem_singleton.1 hj]
    exact h
/-- One operation alone may come up, and is wanted. -/
theorem anyZ_step {i : Nat} {o : Oper} {fuel : Nat} {listed : Array Bool} {a : Act} {w : World} (hr : Region.ready md ops listed = [i]) (ho : ops[i]? = some o) (hw : Region.wanted o (yielded ops a.tmps) = true)
    (h : ∀ K : Act → World → Prop, (∀ a' w', (LateOp md ops Z i ∨ S w') → AnyZ P md ops Q S Z fuel (listed.setIfInBounds i true) a' w' → K a' w') → Oper.wp P o a w K Q) : AnyZ P md ops Q S Z (fuel + 1) listed a w :=
  anyZ_one hr (by
    unfold wpOp
    simp only [ho, hw, if_true]
    exact .inl (h _ fun a' w' h1 h2 => ⟨h1, h2⟩))
theorem anyZ_done {listed : Array Bool} {a : Act} {w : World} (hr : Region.ready md ops listed = []) (h : Q .normal a w) : ∀ fuel, AnyZ P md ops Q S Z fuel listed a w
  | 0 => ⟨hr, h⟩
  | _ + 1 => ⟨fun _ => h, by rw [hr]; simp⟩
theorem wp_region_Z {id : Nat} {a : Act} {w : World} (hm : P.follows .mixedOrders = true)
    (h : AnyZ P .any ops Q S Z ops.size (Array.replicate ops.size false) a { w with drawn := w.drawn + 1 }) : (Code.region id ops true).wp P Q a w :=
  wp_region_any hm (any_of_Z _ _ _ _ h)
/-- Two operations may come up, both wanted. -/
theorem anyZ_two {i j : Nat} {oi oj : Oper} {fuel : Nat} {listed : Array Bool} {a : Act} {w : World} (hr : Region.ready md ops listed = [i, j]) (hi : ops[i]? = some oi) (hj : ops[j]? = some oj) (hwi : Region.wanted oi (yielded ops a.tmps) = true) (hwj : Region.wanted oj (yielded ops a.tmps) = true)
    (h1 : ∀ K : Act → World → Prop, (∀ a' w', (LateOp md ops Z i ∨ S w') → AnyZ P md ops Q S Z fuel (listed.setIfInBounds i true) a' w' → K a' w') → Oper.wp P oi a w K Q)
    (h2 : ∀ K : Act → World → Prop, (∀ a' w', (LateOp md ops Z j ∨ S w') → AnyZ P md ops Q S Z fuel (listed.setIfInBounds j true) a' w' → K a' w') → Oper.wp P oj a w K Q) : AnyZ P md ops Q S Z (fuel + 1) listed a w := by
  refine ⟨fun h0 => ?_, fun k hk => ?_⟩
  · rw [hr] at h0
    cases h0
  · rw [hr] at hk
    rcases List.mem_cons.1 hk with rfl | hk
    · unfold wpOp
      simp only [hi, hwi, if_true]
      exact .inl (h1 _ fun a' w' q1 q2 => ⟨q1, q2⟩)
    · rw [List.mem_singleton.1 hk]
      unfold wpOp
      simp only [hj, hwj, if_true]
      exact .inl (h2 _ fun a' w' q1 q2 => ⟨q1, q2⟩)
/-- Whether operation j waits for every other that is not in Z, as a Bool. -/
def lateB (md : Region.Mode) (ops : Array Oper) (Z : List Nat) (j : Nat) : Bool :=
  match ops[j]? with
  | some oj => (List.range ops.size).all fun i => Z.contains i || decide (i = j) || oj.after.any fun e => Region.binds md e && decide (e.on = i)
  | none => false
theorem late_of {j : Nat} (h : lateB md ops Z j = true) : LateOp md ops Z j := by
  unfold lateB at h
  split at h
  · rename_i oj hoj
    refine ⟨oj, hoj, fun i hi hz hne => ?_⟩
    have h1 := List.all_eq_true.1 h i (List.mem_range.2 hi)
    simp only [Bool.or_eq_true, decide_eq_true_eq, Array.any_eq_true, List.contains_iff_mem] at h1
    rcases h1 with (h1 | h1) | ⟨k, hk, h1⟩
    · exact absurd h1 hz
    · exact absurd h1 hne
    · simp only [Bool.and_eq_true, decide_eq_true_eq] at h1
      exact ⟨_, Array.getElem_mem hk, h1.1, h1.2⟩
  · cases h
end
end Go.Proofs.Ytpnifgpmleaohaa

end

/-! YtpnifgpmleaohaaStgO -/
section

namespace Go.Proofs.Ytpnifgpmleaohaa
open Go.RowKit Go.Sort
set_option linter.unusedVariables false
set_option linter.unusedSimpArgs false

/-- An operation of a call's own. -/
theorem Row.ownOp {base : Nat} {w : World} {a : Option Addr} {n c : Nat} {ys : List Int} (h : Row base w (.slice a n c) ys) (k i o : Int) : ownOp.owns (FromB base w.heap.size) w [.int .i64 k, .int .i64 i, .int .i64 o, .slice a n c] (k, i, o, ys) := by
  obtain ⟨a', n', c', e', h1, h2, h3⟩ := h.own
  obtain ⟨rfl, rfl, rfl⟩ : a = a' ∧ n = n' ∧ c = c' := by simpa using e'
  exact ownOp_owns.2 ⟨a, n, c, rfl, h1, h2, h3⟩
theorem op_one {k i o : Int} {a : Option Addr} {n c : Nat} : ∀ u ∈ [Value.int .i64 k, .int .i64 i, .int .i64 o, .slice a n c], u.oneCell' = true := by
  intro u hu
  simp only [List.mem_cons, List.not_mem_nil, or_false] at hu
  rcases hu with rfl | rfl | rfl | rfl <;> rfl
set_option maxRecDepth 100000 in
set_option maxHeartbeats 6400000 in
theorem specOpsCopy_o (w : World) (a : Option Addr) (n c : Nat) (l : List dOp) (h : ListAt shOp (Under w.heap.size) w a n l) (hn : n ≤ 1048576) (hb : Shape.sum shOp.bulk l ≤ 1048576) :
    Calls Try.prog 33 #[.slice a n c] w fun e w' => ∃ v, e = .returned v ∧ ListL ownOp 69 w.heap.size w'.heap.size w' v l ∧ Below w.heap.size w w' := by
  obtain ⟨i0, hi, hz0, hz1, hz2⟩ := info_parts infoAll_Op
  have he : ListL ownOp 69 w.heap.size (w.alloc (.cells #[] 69 (0, 0))).heap.size (w.alloc (.cells #[] 69 (0, 0))) (.slice (some ⟨w.heap.size, 0, none⟩) 0 0) [] := by
    have := ListL.empty ownOp 69 (lo := w.heap.size) w (Nat.le_refl _)
    exact this.wide (Nat.le_refl _) (by simp) (Nat.le_refl _)
  have hal : Below w.heap.size w (w.alloc (.cells #[] 69 (0, 0))) := (Below.refl _ _).alloc (Nat.le_refl _) _
  have HL := Lib.hid h
  have HLEN := Lib.hid h.1
  have HBK := Lib.hid hb
  have HE := Lib.hid he
  have HA := Lib.hid hal
  clear h hb he hal
  go_enter Try.func33, Try.ntmps33
  go_wp2_with fail
  generalize w.alloc (.cells #[] 69 (0, 0)) = W0 at HE HA ⊢
  go_loopw [3, 4] (fun v i wr => ∃ k : Nat, k ≤ n ∧ i = .int .i64 k ∧ ListL ownOp 69 w.heap.size wr.heap.size wr v (l.take k) ∧ Below w.heap.size w wr) (fun _ i _ => n - (intOf i).toNat)
  case atStart => exact ⟨0, Nat.zero_le _, rfl, HE.out, HA.out⟩
  case round =>
    obtain ⟨k, hk, rfl, hl, hb⟩ := hrel
    have hsz := hb.size
    by_cases hlt : k < n
    · obtain ⟨b, o, x, ax, nx, cx, hx, rfl, hbB, hc0, hc1, hc2, hc3, -, -, hlx⟩ := op_at HL.out k hlt
      have hbx := bulk_mem shOp.bulk l k x hx
      rw [shOp_bulk, bulk_ints, hlx.1] at hbx
      have hnx : nx ≤ 1048576 := by have := HBK.out; omega
      have hix := hlx.ints hnx
      obtain ⟨A, hA⟩ : ∃ M, x.1 = M := ⟨_, rfl⟩
      obtain ⟨I, hI⟩ : ∃ M, x.2.1 = M := ⟨_, rfl⟩
      obtain ⟨O, hO⟩ : ∃ M, x.2.2.1 = M := ⟨_, rfl⟩
      rw [hA] at hc0
      rw [hI] at hc1
      rw [hO] at hc2
      have htk : l.take (k + 1) = l.take k ++ [x] := by rw [List.take_add_one, hx]; rfl
      have hxe : x = (A, I, O, x.2.2.2) := by rw [← hA, ← hI, ← hO]
      obtain ⟨av, cv, rfl, -, -⟩ := hl.form
      have htl : (l.take k).length = k := by rw [List.length_take, HLEN.out]; omega
      rw [htl] at hl ⊢
      have d0 := (hb.cell (p := ⟨b, o + k * 4, none⟩) hbB).trans hc0
      have d1 := (hb.cell (p := ⟨b, o + k * 4 + 1, none⟩) hbB).trans hc1
      have d2 := (hb.cell (p := ⟨b, o + k * 4 + 2, none⟩) hbB).trans hc2
      have d3 := (hb.cell (p := ⟨b, o + k * 4 + 3, none⟩) hbB).trans hc3
      have hal := (Below.refl wr.heap.size wr).alloc (Nat.le_refl _) (.cells #[.int .i64 A, .int .i64 I, .int .i64 O, .slice ax nx cx] 69 (0, 0))
      have hbk := heap_alloc_new wr (.cells #[.int .i64 A, .int .i64 I, .int .i64 O, .slice ax nx cx] 69 (0, 0))
      have hs1 : (wr.alloc (.cells #[.int .i64 A, .int .i64 I, .int .i64 O, .slice ax nx cx] 69 (0, 0))).heap.size = wr.heap.size + 1 := by simp
      have e3 := (hal.cell (p := ⟨b, o + k * 4 + 3, none⟩) (by show b < _; have : b < w.heap.size := hbB; omega)).trans d3
      have HIX := Lib.hid hix
      have HLK := Lib.hid hl
      have HTK := Lib.hid htk
      have HXE := Lib.hid hxe
      have HBW := Lib.hid hb
      have HAL := Lib.hid hal
      have HBN := Lib.hid hbk
      have hbB' : b < w.heap.size := hbB
      clear hx hlx hix hc0 hc1 hc2 hc3 hA hI hO htk hxe hl hb hbx hal hbk hbB
      go_upto_region 6 with fail
      clear d0 d1 d2 d3
      generalize wr.alloc (.cells #[.int .i64 A, .int .i64 I, .int .i64 O, .slice ax nx cx] 69 (0, 0)) = wb at HAL HBN hs1 e3 ⊢
      have ha1 : Below wb.heap.size wb (wb.alloc (.cells #[] 3 (0, 0))) := (Below.refl _ _).alloc (Nat.le_refl _) _
      have hre : Row wb.heap.size (wb.alloc (.cells #[] 3 (0, 0))) (.slice (some ⟨wb.heap.size, 0, none⟩) 0 0) [] :=
        ⟨by simp [icells], .inr ⟨wb.heap.size, 0, #[], rfl, Nat.le_refl _, heap_alloc_new wb _, Nat.le_refl _, Nat.zero_le _, by simp, by simp [icells]⟩⟩
      have f3 := (ha1.cell (p := ⟨b, o + k * 4 + 3, none⟩) (by show b < _; omega)).trans e3
      have HA1 := Lib.hid ha1
      have HRE := Lib.hid hre
      have HIN := Lib.hid (HIX.out.below ((HBW.out.trans (HAL.out.mono hsz)).trans (ha1.mono (by omega))) (Nat.le_refl _))
      clear ha1 hre
      have HS1 := Lib.hid hs1
      clear hs1
      go_upto_region 7 with (at_builtin; refine plain_of_step (by rfl) fun K hK => ?_; refine of_step rfl (step_append_ints (ops := #[]) _ rfl _ _ (by rfl) wb.heap.size _ [] (by rfl) HRE.out ax nx cx w.heap.size x.2.2.2 (by rfl) HIN.out (by simp) HA1.out.size ?_); intro ar nr cr w2 hr hg; rw [List.nil_append] at hr; have hb2 : Below wb.heap.size wb w2 := HA1.out.trans ((Below.refl wb.heap.size _).grown hg HA1.out.size fun q hq => by cases hq; exact Nat.le_refl _); have hk2 := (hb2.block wr.heap.size (by have := HS1.out; omega)).trans HBN.out; have s3 := box14 hk2 3 _ rfl; have t3 : w2.frozen? ⟨wr.heap.size, 3, none⟩ = false := frozen_of_row _ _ _ _ _ hk2; have HR2 := Lib.hid hr; have HB2 := Lib.hid hb2; have HK2 := Lib.hid hk2; clear hr hg hb2 hk2; refine hK _ _ ?_; clear hK K)
      have hs1 := HS1.out
      have k3 := heap_setCell_same w2 wr.heap.size 3 _ _ (.slice ar nr cr) HK2.out
      have hs2 := HB2.out.size
      have hne : ∀ q, (Value.slice ar nr cr).ownBlock = some q → q ≠ wr.heap.size := fun q hq => by have := (Row.lt HR2.out q hq).1; omega
      have hr3 := ownsRow_set HR2.out 3 (.slice ar nr cr) hne
      have hl3 := ((HLK.out.below HAL.out (Nat.le_refl _)).below HB2.out (by omega)).far wr.heap.size 3 (.slice ar nr cr) (Nat.le_refl _)
      have hb3 := (HBW.out.trans ((HAL.out.mono hsz).trans (HB2.out.mono (by omega)))).setCell (p := ⟨wr.heap.size, 3, none⟩) hsz (.slice ar nr cr)
      have hs3 : (w2.setCell ⟨wr.heap.size, 3, none⟩ (.slice ar nr cr)).heap.size = w2.heap.size := by simp
      have K3 := Lib.hid k3
      have HR3 := Lib.hid (show Row wb.heap.size (w2.setCell ⟨wr.heap.size, 3, none⟩ (.slice ar nr cr)) (.slice ar nr cr) x.2.2.2 from hr3)
      have HL3 := Lib.hid hl3
      have HB3 := Lib.hid hb3
      have HS3 := Lib.hid hs3
      clear k3 hr3 hl3 hb3 hne s3 t3 e3 f3 hs1 hs2 hs3
      generalize w2.setCell ⟨wr.heap.size, 3, none⟩ (.slice ar nr cr) = w3 at K3 HR3 HL3 HB3 HS3 ⊢
      have y0 := box14 K3.out 0 _ rfl
      have y1 := box14 K3.out 1 _ rfl
      have y2 := box14 K3.out 2 _ rfl
      have y3 := box14 K3.out 3 _ rfl
      go_wp2_with (at_builtin; refine plain_of_step (by rfl) fun K hK => ?_; refine of_step rfl (step_append_one (ops := #[]) w3 (S := ownOp) (T := 69) (Ts := 27) (by rfl) _ _ (by rfl) i0 (.agg #[.int .i64 0, .int .i64 0, .int .i64 0, .slice none 0 0]) 48 Try.underlying27 hi hz0 hz1 hz2 rfl (by decide) (by decide) w.heap.size wr.heap.size hsz _ (l.take k) (A, I, O, x.2.2.2) [.int .i64 A, .int .i64 I, .int .i64 O, .slice ar nr cr] (FromB wb.heap.size w3.heap.size) (by rfl) HL3.out (HR3.out.ownOp A I O) (fun b o f => ⟨by have := f.1; have := HS1.out; omega, f.2⟩) op_one (by rfl) (by rw [List.length_take]; omega) ?_); intro av' nv' cv' w4 hl4 hb4 _ _; have HL4 := Lib.hid hl4; have HB4 := Lib.hid (HB3.out.trans hb4); clear hl4 hb4; refine hK _ _ ?_; clear hK K)
      go_roundw
      case rel =>
        refine ⟨k + 1, by omega, by go_num, ?_, HB4.out⟩
        rw [HTK.out, HXE.out]
        exact HL4.out
      case measure => simp [intOf]; omega
    · obtain rfl : k = n := by omega
      rw [List.take_of_length_le (Nat.le_of_eq HLEN.out)] at hl
      have HLL := Lib.hid hl
      have HBW := Lib.hid hb
      clear hl hb
      go_wp2_with fail
      go_ret
      exact ⟨_, rfl, HLL.out, HBW.out⟩
end Go.Proofs.Ytpnifgpmleaohaa

end

/-! YtpnifgpmleaohaaStgN -/
section

namespace Go.Proofs.Ytpnifgpmleaohaa
open Go.RowKit Go.Sort
set_option linter.unusedVariables false
set_option linter.unusedSimpArgs false

set_option maxHeartbeats 1600000 in
theorem stage_boxed {wx : World} {g : Nat} {T : TypeId} {u0 u1 u2 u3 u4 u5 u6 u7 u8 u9 u10 u11 u12 u13 : Value} (k : wx.heap[g]? = some (.cells #[u0, u1, u2, u3, u4, u5, u6, u7, u8, u9, u10, u11, u12, u13] T (0, 0))) (v0 v1 v2 v3 v4 v5 v6 v7 v8 v9 v10 v11 v12 v13 : Value) :
    ((((((((((((((wx.setCell ⟨g, 0, none⟩ v0).setCell ⟨g, 1, none⟩ v1).setCell ⟨g, 2, none⟩ v2).setCell ⟨g, 3, none⟩ v3).setCell ⟨g, 4, none⟩ v4).setCell ⟨g, 5, none⟩ v5).setCell ⟨g, 6, none⟩ v6).setCell ⟨g, 7, none⟩ v7).setCell ⟨g, 8, none⟩ v8).setCell ⟨g, 9, none⟩ v9).setCell ⟨g, 10, none⟩ v10).setCell ⟨g, 11, none⟩ v11).setCell ⟨g, 12, none⟩ v12).setCell ⟨g, 13, none⟩ v13).heap[g]? = some (.cells #[v0, v1, v2, v3, v4, v5, v6, v7, v8, v9, v10, v11, v12, v13] T (0, 0)) ∧ ((((((((((((((wx.setCell ⟨g, 0, none⟩ v0).setCell ⟨g, 1, none⟩ v1).setCell ⟨g, 2, none⟩ v2).setCell ⟨g, 3, none⟩ v3).setCell ⟨g, 4, none⟩ v4).setCell ⟨g, 5, none⟩ v5).setCell ⟨g, 6, none⟩ v6).setCell ⟨g, 7, none⟩ v7).setCell ⟨g, 8, none⟩ v8).setCell ⟨g, 9, none⟩ v9).setCell ⟨g, 10, none⟩ v10).setCell ⟨g, 11, none⟩ v11).setCell ⟨g, 12, none⟩ v12).setCell ⟨g, 13, none⟩ v13).heap.size = wx.heap.size ∧ (∀ b, b ≠ g → ((((((((((((((wx.setCell ⟨g, 0, none⟩ v0).setCell ⟨g, 1, none⟩ v1).setCell ⟨g, 2, none⟩ v2).setCell ⟨g, 3, none⟩ v3).setCell ⟨g, 4, none⟩ v4).setCell ⟨g, 5, none⟩ v5).setCell ⟨g, 6, none⟩ v6).setCell ⟨g, 7, none⟩ v7).setCell ⟨g, 8, none⟩ v8).setCell ⟨g, 9, none⟩ v9).setCell ⟨g, 10, none⟩ v10).setCell ⟨g, 11, none⟩ v11).setCell ⟨g, 12, none⟩ v12).setCell ⟨g, 13, none⟩ v13).heap[b]? = wx.heap[b]?) ∧ ∀ B w, B ≤ g → Below B w wx → Below B w ((((((((((((((wx.setCell ⟨g, 0, none⟩ v0).setCell ⟨g, 1, none⟩ v1).setCell ⟨g, 2, none⟩ v2).setCell ⟨g, 3, none⟩ v3).setCell ⟨g, 4, none⟩ v4).setCell ⟨g, 5, none⟩ v5).setCell ⟨g, 6, none⟩ v6).setCell ⟨g, 7, none⟩ v7).setCell ⟨g, 8, none⟩ v8).setCell ⟨g, 9, none⟩ v9).setCell ⟨g, 10, none⟩ v10).setCell ⟨g, 11, none⟩ v11).setCell ⟨g, 12, none⟩ v12).setCell ⟨g, 13, none⟩ v13) := by
  have k0 : (wx.setCell ⟨g, 0, none⟩ v0).heap[g]? = some (.cells #[v0, u1, u2, u3, u4, u5, u6, u7, u8, u9, u10, u11, u12, u13] T (0, 0)) := by
    have := heap_setCell_same _ g 0 _ _ v0 k
    simpa only [List.setIfInBounds_toArray, List.set_cons_zero, List.set_cons_succ] using this
  have k1 : ((wx.setCell ⟨g, 0, none⟩ v0).setCell ⟨g, 1, none⟩ v1).heap[g]? = some (.cells #[v0, v1, u2, u3, u4, u5, u6, u7, u8, u9, u10, u11, u12, u13] T (0, 0)) := by
    have := heap_setCell_same _ g 1 _ _ v1 k0
    simpa only [List.setIfInBounds_toArray, List.set_cons_zero, List.set_cons_succ] using this
  have k2 : (((wx.setCell ⟨g, 0, none⟩ v0).setCell ⟨g, 1, none⟩ v1).setCell ⟨g, 2, none⟩ v2).heap[g]? = some (.cells #[v0, v1, v2, u3, u4, u5, u6, u7, u8, u9, u10, u11, u12, u13] T (0, 0)) := by
    have := heap_setCell_same _ g 2 _ _ v2 k1
    simpa only [List.setIfInBounds_toArray, List.set_cons_zero, List.set_cons_succ] using this
  have k3 : ((((wx.setCell ⟨g, 0, none⟩ v0).setCell ⟨g, 1, none⟩ v1).setCell ⟨g, 2, none⟩ v2).setCell ⟨g, 3, none⟩ v3).heap[g]? = some (.cells #[v0, v1, v2, v3, u4, u5, u6, u7, u8, u9, u10, u11, u12, u13] T (0, 0)) := by
    have := heap_setCell_same _ g 3 _ _ v3 k2
    simpa only [List.setIfInBounds_toArray, List.set_cons_zero, List.set_cons_succ] using this
  have k4 : (((((wx.setCell ⟨g, 0, none⟩ v0).setCell ⟨g, 1, none⟩ v1).setCell ⟨g, 2, none⟩ v2).setCell ⟨g, 3, none⟩ v3).setCell ⟨g, 4, none⟩ v4).heap[g]? = some (.cells #[v0, v1, v2, v3, v4, u5, u6, u7, u8, u9, u10, u11, u12, u13] T (0, 0)) := by
    have := heap_setCell_same _ g 4 _ _ v4 k3
    simpa only [List.setIfInBounds_toArray, List.set_cons_zero, List.set_cons_succ] using this
  have k5 : ((((((wx.setCell ⟨g, 0, none⟩ v0).setCell ⟨g, 1, none⟩ v1).setCell ⟨g, 2, none⟩ v2).setCell ⟨g, 3, none⟩ v3).setCell ⟨g, 4, none⟩ v4).setCell ⟨g, 5, none⟩ v5).heap[g]? = some (.cells #[v0, v1, v2, v3, v4, v5, u6, u7, u8, u9, u10, u11, u12, u13] T (0, 0)) := by
    have := heap_setCell_same _ g 5 _ _ v5 k4
    simpa only [List.setIfInBounds_toArray, List.set_cons_zero, List.set_cons_succ] using this
  have k6 : (((((((wx.setCell ⟨g, 0, none⟩ v0).setCell ⟨g, 1, none⟩ v1).setCell ⟨g, 2, none⟩ v2).setCell ⟨g, 3, none⟩ v3).setCell ⟨g, 4, none⟩ v4).setCell ⟨g, 5, none⟩ v5).setCell ⟨g, 6, none⟩ v6).heap[g]? = some (.cells #[v0, v1, v2, v3, v4, v5, v6, u7, u8, u9, u10, u11, u12, u13] T (0, 0)) := by
    have := heap_setCell_same _ g 6 _ _ v6 k5
    simpa only [List.setIfInBounds_toArray, List.set_cons_zero, List.set_cons_succ] using this
  have k7 : ((((((((wx.setCell ⟨g, 0, none⟩ v0).setCell ⟨g, 1, none⟩ v1).setCell ⟨g, 2, none⟩ v2).setCell ⟨g, 3, none⟩ v3).setCell ⟨g, 4, none⟩ v4).setCell ⟨g, 5, none⟩ v5).setCell ⟨g, 6, none⟩ v6).setCell ⟨g, 7, none⟩ v7).heap[g]? = some (.cells #[v0, v1, v2, v3, v4, v5, v6, v7, u8, u9, u10, u11, u12, u13] T (0, 0)) := by
    have := heap_setCell_same _ g 7 _ _ v7 k6
    simpa only [List.setIfInBounds_toArray, List.set_cons_zero, List.set_cons_succ] using this
  have k8 : (((((((((wx.setCell ⟨g, 0, none⟩ v0).setCell ⟨g, 1, none⟩ v1).setCell ⟨g, 2, none⟩ v2).setCell ⟨g, 3, none⟩ v3).setCell ⟨g, 4, none⟩ v4).setCell ⟨g, 5, none⟩ v5).setCell ⟨g, 6, none⟩ v6).setCell ⟨g, 7, none⟩ v7).setCell ⟨g, 8, none⟩ v8).heap[g]? = some (.cells #[v0, v1, v2, v3, v4, v5, v6, v7, v8, u9, u10, u11, u12, u13] T (0, 0)) := by
    have := heap_setCell_same _ g 8 _ _ v8 k7
    simpa only [List.setIfInBounds_toArray, List.set_cons_zero, List.set_cons_succ] using this
  have k9 : ((((((((((wx.setCell ⟨g, 0, none⟩ v0).setCell ⟨g, 1, none⟩ v1).setCell ⟨g, 2, none⟩ v2).setCell ⟨g, 3, none⟩ v3).setCell ⟨g, 4, none⟩ v4).setCell ⟨g, 5, none⟩ v5).setCell ⟨g, 6, none⟩ v6).setCell ⟨g, 7, none⟩ v7).setCell ⟨g, 8, none⟩ v8).setCell ⟨g, 9, none⟩ v9).heap[g]? = some (.cells #[v0, v1, v2, v3, v4, v5, v6, v7, v8, v9, u10, u11, u12, u13] T (0, 0)) := by
    have := heap_setCell_same _ g 9 _ _ v9 k8
    simpa only [List.setIfInBounds_toArray, List.set_cons_zero, List.set_cons_succ] using this
  have k10 : (((((((((((wx.setCell ⟨g, 0, none⟩ v0).setCell ⟨g, 1, none⟩ v1).setCell ⟨g, 2, none⟩ v2).setCell ⟨g, 3, none⟩ v3).setCell ⟨g, 4, none⟩ v4).setCell ⟨g, 5, none⟩ v5).setCell ⟨g, 6, none⟩ v6).setCell ⟨g, 7, none⟩ v7).setCell ⟨g, 8, none⟩ v8).setCell ⟨g, 9, none⟩ v9).setCell ⟨g, 10, none⟩ v10).heap[g]? = some (.cells #[v0, v1, v2, v3, v4, v5, v6, v7, v8, v9, v10, u11, u12, u13] T (0, 0)) := by
    have := heap_setCell_same _ g 10 _ _ v10 k9
    simpa only [List.setIfInBounds_toArray, List.set_cons_zero, List.set_cons_succ] using this
  have k11 : ((((((((((((wx.setCell ⟨g, 0, none⟩ v0).setCell ⟨g, 1, none⟩ v1).setCell ⟨g, 2, none⟩ v2).setCell ⟨g, 3, none⟩ v3).setCell ⟨g, 4, none⟩ v4).setCell ⟨g, 5, none⟩ v5).setCell ⟨g, 6, none⟩ v6).setCell ⟨g, 7, none⟩ v7).setCell ⟨g, 8, none⟩ v8).setCell ⟨g, 9, none⟩ v9).setCell ⟨g, 10, none⟩ v10).setCell ⟨g, 11, none⟩ v11).heap[g]? = some (.cells #[v0, v1, v2, v3, v4, v5, v6, v7, v8, v9, v10, v11, u12, u13] T (0, 0)) := by
    have := heap_setCell_same _ g 11 _ _ v11 k10
    simpa only [List.setIfInBounds_toArray, List.set_cons_zero, List.set_cons_succ] using this
  have k12 : (((((((((((((wx.setCell ⟨g, 0, none⟩ v0).setCell ⟨g, 1, none⟩ v1).setCell ⟨g, 2, none⟩ v2).setCell ⟨g, 3, none⟩ v3).setCell ⟨g, 4, none⟩ v4).setCell ⟨g, 5, none⟩ v5).setCell ⟨g, 6, none⟩ v6).setCell ⟨g, 7, none⟩ v7).setCell ⟨g, 8, none⟩ v8).setCell ⟨g, 9, none⟩ v9).setCell ⟨g, 10, none⟩ v10).setCell ⟨g, 11, none⟩ v11).setCell ⟨g, 12, none⟩ v12).heap[g]? = some (.cells #[v0, v1, v2, v3, v4, v5, v6, v7, v8, v9, v10, v11, v12, u13] T (0, 0)) := by
    have := heap_setCell_same _ g 12 _ _ v12 k11
    simpa only [List.setIfInBounds_toArray, List.set_cons_zero, List.set_cons_succ] using this
  have k13 : ((((((((((((((wx.setCell ⟨g, 0, none⟩ v0).setCell ⟨g, 1, none⟩ v1).setCell ⟨g, 2, none⟩ v2).setCell ⟨g, 3, none⟩ v3).setCell ⟨g, 4, none⟩ v4).setCell ⟨g, 5, none⟩ v5).setCell ⟨g, 6, none⟩ v6).setCell ⟨g, 7, none⟩ v7).setCell ⟨g, 8, none⟩ v8).setCell ⟨g, 9, none⟩ v9).setCell ⟨g, 10, none⟩ v10).setCell ⟨g, 11, none⟩ v11).setCell ⟨g, 12, none⟩ v12).setCell ⟨g, 13, none⟩ v13).heap[g]? = some (.cells #[v0, v1, v2, v3, v4, v5, v6, v7, v8, v9, v10, v11, v12, v13] T (0, 0)) := by
    have := heap_setCell_same _ g 13 _ _ v13 k12
    simpa only [List.setIfInBounds_toArray, List.set_cons_zero, List.set_cons_succ] using this
  refine ⟨k13, by simp only [World.size_setCell], fun b hb => ?_, fun B w hB h => ?_⟩
  · iterate 14 rw [heap_setCell_other _ _ _ _ (by exact hb)]
  · exact (((((((((((((h.setCell (p := ⟨g, 0, none⟩) hB v0).setCell (p := ⟨g, 1, none⟩) hB v1).setCell (p := ⟨g, 2, none⟩) hB v2).setCell (p := ⟨g, 3, none⟩) hB v3).setCell (p := ⟨g, 4, none⟩) hB v4).setCell (p := ⟨g, 5, none⟩) hB v5).setCell (p := ⟨g, 6, none⟩) hB v6).setCell (p := ⟨g, 7, none⟩) hB v7).setCell (p := ⟨g, 8, none⟩) hB v8).setCell (p := ⟨g, 9, none⟩) hB v9).setCell (p := ⟨g, 10, none⟩) hB v10).setCell (p := ⟨g, 11, none⟩) hB v11).setCell (p := ⟨g, 12, none⟩) hB v12).setCell (p := ⟨g, 13, none⟩) hB v13
abbrev zeroC : Array Value := #[.int .i64 0, .slice none 0 0, .slice none 0 0, .bool false, .bool false, .slice none 0 0, .slice none 0 0, .slice none 0 0, .slice none 0 0, .slice none 0 0, .slice none 0 0, .slice none 0 0, .int .i64 0, .bool false]
theorem zero_reads {I : Nat → Prop} (w : World) : shStage.reads I w zeroC.toList zeroStage := by
  have e : ∀ {α : Type} (S : Shape α), (0 ≤ 0 ∧ 0 ≤ 9223372036854775807 ∧ ListAt S I w none 0 ([] : List α)) := fun S => ⟨Nat.le_refl _, by omega, rfl, fun j x hx => by simp at hx⟩
  exact shStage_reads.2 ⟨_, _, _, _, _, _, _, _, _, _, _, _, _, _, _, _, _, _, _, _, _, _, _, _, _, _, _, rfl, e _, e _, e _, e _, e _, e _, e _, e _, e _⟩
set_option maxRecDepth 100000 in
set_option maxHeartbeats 6400000 in
theorem specNew_o (w : World) (a0 : Option Addr) (n0 c0 : Nat) (ops : List dOp) (h0 : ListAt shOp (Under w.heap.size) w a0 n0 ops) (p0 : n0 ≤ c0) (q0 : c0 ≤ 9223372036854775807) (hb0 : (Shape.list shOp).bulk ops ≤ 1048576)
    (a1 : Option Addr) (n1 c1 : Nat) (plan : List dIns) (h1 : ListAt shIns (Under w.heap.size) w a1 n1 plan) (hb1 : (Shape.list shIns).bulk plan ≤ 1048576) (last redo : Bool) :
    Calls Try.prog 9 #[.slice a0 n0 c0, .slice a1 n1 c1, .bool last, .bool redo] w fun e w' => ∃ es', e = .returned (.agg (es' : List Value).toArray) ∧ shStage.reads (From w.heap.size w'.heap.size) w' es' (newN ops plan last redo) ∧ Below w.heap.size w w' := by
  obtain ⟨i0, hi, hz0, hz1, hz2⟩ := info_parts infoIns
  have hbo := hb0
  rw [bulk_list shOp h0] at hbo
  have hti := h1.twoIn (Nat.le_refl _) hb1
  have hk0 : ((w.alloc (.cells #[.int .i64 0, .slice none 0 0, .slice none 0 0, .bool false, .bool false, .slice none 0 0, .slice none 0 0, .slice none 0 0, .slice none 0 0, .slice none 0 0, .slice none 0 0, .slice none 0 0, .int .i64 0, .bool false] 34 (0, 0))).alloc (.cells #[.slice a0 n0 c0] 65 (0, 0))).heap[w.heap.size]? = some (.cells #[.int .i64 0, .slice none 0 0, .slice none 0 0, .bool false, .bool false, .slice none 0 0, .slice none 0 0, .slice none 0 0, .slice none 0 0, .slice none 0 0, .slice none 0 0, .slice none 0 0, .int .i64 0, .bool false] 34 (0, 0)) := by
    rw [Below.heap_alloc _ _ _ (by simp)]
    exact heap_alloc_new w _
  have hk1 : ((w.alloc (.cells #[.int .i64 0, .slice none 0 0, .slice none 0 0, .bool false, .bool false, .slice none 0 0, .slice none 0 0, .slice none 0 0, .slice none 0 0, .slice none 0 0, .slice none 0 0, .slice none 0 0, .int .i64 0, .bool false] 34 (0, 0))).alloc (.cells #[.slice a0 n0 c0] 65 (0, 0))).heap[w.heap.size + 1]? = some (.cells #[.slice a0 n0 c0] 65 (0, 0)) := by
    have := heap_alloc_new (w.alloc (.cells #[.int .i64 0, .slice none 0 0, .slice none 0 0, .bool false, .bool false, .slice none 0 0, .slice none 0 0, .slice none 0 0, .slice none 0 0, .slice none 0 0, .slice none 0 0, .slice none 0 0, .int .i64 0, .bool false] 34 (0, 0))) (.cells #[.slice a0 n0 c0] 65 (0, 0))
    simpa using this
  have hal : Below w.heap.size w ((w.alloc (.cells #[.int .i64 0, .slice none 0 0, .slice none 0 0, .bool false, .bool false, .slice none 0 0, .slice none 0 0, .slice none 0 0, .slice none 0 0, .slice none 0 0, .slice none 0 0, .slice none 0 0, .int .i64 0, .bool false] 34 (0, 0))).alloc (.cells #[.slice a0 n0 c0] 65 (0, 0))) := ((Below.refl _ _).alloc (Nat.le_refl _) _).alloc (by simp) _
  have hs2 : ((w.alloc (.cells #[.int .i64 0, .slice none 0 0, .slice none 0 0, .bool false, .bool false, .slice none 0 0, .slice none 0 0, .slice none 0 0, .slice none 0 0, .slice none 0 0, .slice none 0 0, .slice none 0 0, .int .i64 0, .bool false] 34 (0, 0))).alloc (.cells #[.slice a0 n0 c0] 65 (0, 0))).heap.size = w.heap.size + 2 := by simp
  have H0 := Lib.hid h0
  have HTI := Lib.hid hti
  have K0 := Lib.hid hk0
  have K1 := Lib.hid hk1
  have HA := Lib.hid hal
  have HS := Lib.hid hs2
  have HB0 := Lib.hid hb0
  have HM : Hid (∀ (wx : World), Below w.heap.size w wx → shModel.reads (Under wx.heap.size) wx [.slice a0 n0 c0] ops) := Lib.hid fun wx hx => shModel_reads.2 ⟨_, _, _, rfl, p0, q0, (H0.out.below hx (Nat.le_refl _)).le hx.size⟩
  obtain ⟨p, hp⟩ : ∃ p, modelOkB ops = p := ⟨_, rfl⟩
  have HP := Lib.hid hp
  clear h0 hti hk0 hk1 hal hs2 hb0 h1 hp
  go_enter Try.func9, Try.ntmps9
  go_upto_region 2 with fail
  generalize ((w.alloc (.cells #[.int .i64 0, .slice none 0 0, .slice none 0 0, .bool false, .bool false, .slice none 0 0, .slice none 0 0, .slice none 0 0, .slice none 0 0, .slice none 0 0, .slice none 0 0, .slice none 0 0, .int .i64 0, .bool false] 34 (0, 0))).alloc (.cells #[.slice a0 n0 c0] 65 (0, 0))) = W0 at K0 K1 HA HS ⊢
  have hs := HS.out
  have z0 : W0.cell? ⟨w.heap.size + 1, 0, none⟩ = some (.slice a0 n0 c0) := box14 K1.out 0 _ rfl
  have HOK := Lib.hid (specModelOk_d W0 [.slice a0 n0 c0] ops (HM.out W0 HA.out) (by rw [shModel_bulk]; exact HB0.out))
  rw [HP.out] at HOK
  clear hs
  go_wp2_with fail
  refine HOK.out.mono ?_
  rintro e w1 ⟨rfl, hb⟩
  have hs := HS.out
  have A1 := Lib.hid (HA.out.trans (hb.mono HA.out.size))
  have R1 := (hb.block w.heap.size (by omega)).trans K0.out
  have M1 := (hb.block (w.heap.size + 1) (by omega)).trans K1.out
  have hsz := hb.size
  have hs1 : w.heap.size + 2 ≤ w1.heap.size := by omega
  clear hb hs z0 HOK hsz
  cases p
  · have hnn : newN ops plan last redo = zeroStage := by unfold newN; rw [HP.out]; rfl
    obtain ⟨e1, e2, e3, e4⟩ := stage_boxed R1 (.int .i64 0) (.slice none 0 0) (.slice none 0 0) (.bool false) (.bool false) (.slice none 0 0) (.slice none 0 0) (.slice none 0 0) (.slice none 0 0) (.slice none 0 0) (.slice none 0 0) (.slice none 0 0) (.int .i64 0) (.bool false)
    have E1 := Lib.hid e1
    have E4 := Lib.hid (e4 w.heap.size w (Nat.le_refl _) A1.out)
    have NN := Lib.hid hnn
    have cc0 := box14 R1 0 _ rfl
    have f0 : w1.frozen? ⟨w.heap.size, 0, none⟩ = false := frozen_of_row _ _ _ _ _ R1
    have cc1 := box14 R1 1 _ rfl
    have f1 : w1.frozen? ⟨w.heap.size, 1, none⟩ = false := frozen_of_row _ _ _ _ _ R1
    have cc2 := box14 R1 2 _ rfl
    have f2 : w1.frozen? ⟨w.heap.size, 2, none⟩ = false := frozen_of_row _ _ _ _ _ R1
    have cc3 := box14 R1 3 _ rfl
    have f3 : w1.frozen? ⟨w.heap.size, 3, none⟩ = false := frozen_of_row _ _ _ _ _ R1
    have cc4 := box14 R1 4 _ rfl
    have f4 : w1.frozen? ⟨w.heap.size, 4, none⟩ = false := frozen_of_row _ _ _ _ _ R1
    have cc5 := box14 R1 5 _ rfl
    have f5 : w1.frozen? ⟨w.heap.size, 5, none⟩ = false := frozen_of_row _ _ _ _ _ R1
    have cc6 := box14 R1 6 _ rfl
    have f6 : w1.frozen? ⟨w.heap.size, 6, none⟩ = false := frozen_of_row _ _ _ _ _ R1
    have cc7 := box14 R1 7 _ rfl
    have f7 : w1.frozen? ⟨w.heap.size, 7, none⟩ = false := frozen_of_row _ _ _ _ _ R1
    have cc8 := box14 R1 8 _ rfl
    have f8 : w1.frozen? ⟨w.heap.size, 8, none⟩ = false := frozen_of_row _ _ _ _ _ R1
    have cc9 := box14 R1 9 _ rfl
    have f9 : w1.frozen? ⟨w.heap.size, 9, none⟩ = false := frozen_of_row _ _ _ _ _ R1
    have cc10 := box14 R1 10 _ rfl
    have f10 : w1.frozen? ⟨w.heap.size, 10, none⟩ = false := frozen_of_row _ _ _ _ _ R1
    have cc11 := box14 R1 11 _ rfl
    have f11 : w1.frozen? ⟨w.heap.size, 11, none⟩ = false := frozen_of_row _ _ _ _ _ R1
    have cc12 := box14 R1 12 _ rfl
    have f12 : w1.frozen? ⟨w.heap.size, 12, none⟩ = false := frozen_of_row _ _ _ _ _ R1
    have cc13 := box14 R1 13 _ rfl
    have f13 : w1.frozen? ⟨w.heap.size, 13, none⟩ = false := frozen_of_row _ _ _ _ _ R1
    clear e1 e2 e3 e4 hnn
    go_wp2_with fail
    refine bodyPost_ret (results_cell_row rfl _ _ w.heap.size 34 #[.int .i64 0, .slice none 0 0, .slice none 0 0, .bool false, .bool false, .slice none 0 0, .slice none 0 0, .slice none 0 0, .slice none 0 0, .slice none 0 0, .slice none 0 0, .slice none 0 0, .int .i64 0, .bool false] (0, 0) _ rfl E1.out Try.underlying34 rfl (by kernel_rfl)) rfl ?_
    exact ⟨_, rfl, by rw [NN.out]; exact zero_reads _, E4.out⟩
  · have hnn : newN ops plan last redo = (0, plan, ops, last, redo, [], [], [], [], [], [], zeroG ops) := by unfold newN; rw [HP.out]; rfl
    have NN := Lib.hid hnn
    have R1' := Lib.hid R1
    have M1' := Lib.hid M1
    have hd : Below w1.heap.size w1 w1.drew := (Below.refl _ _).drew
    have ha1 : Below w1.heap.size w1 (w1.alloc (.cells #[] 72 (0, 0))).drew := ((Below.refl _ _).alloc (Nat.le_refl _) _).drew
    have hre : TwoR 72 w1.heap.size (w1.alloc (.cells #[] 72 (0, 0))).drew (.slice (some ⟨w1.heap.size, 0, none⟩) 0 0) [] :=
      ⟨by simp [tcells], .inr ⟨w1.heap.size, 0, #[], rfl, Nat.le_refl _, heap_alloc_new w1 _, Nat.le_refl _, Nat.zero_le _, by simp, by simp [tcells]⟩⟩
    have HD := Lib.hid hd
    have HA1 := Lib.hid ha1
    have HRE := Lib.hid hre
    have HTJ := Lib.hid fun (wx : World) (hx : Below w1.heap.size w1 wx) => HTI.out.below (A1.out.trans (hx.mono A1.out.size)) (Nat.le_refl _)
    have HO := Lib.hid fun (wx : World) (hx : Below w1.heap.size w1 wx) => specOpsCopy_o wx a0 n0 c0 ops ((H0.out.below (A1.out.trans (hx.mono A1.out.size)) (Nat.le_refl _)).le (Nat.le_trans A1.out.size hx.size)) (by omega) (by omega)
    have HZ := Lib.hid fun (wx : World) (hx : Below w1.heap.size w1 wx) => specZeroGrads_o wx [.slice a0 n0 c0] ops (HM.out wx (A1.out.trans (hx.mono A1.out.size))) (by rw [shModel_bulk]; exact HB0.out)
    have m0 : w1.cell? ⟨w.heap.size + 1, 0, none⟩ = some (.slice a0 n0 c0) := box14 M1 0 _ rfl
    have CELL := Lib.hid fun (wx : World) (hx : Below w1.heap.size w1 wx) => (show wx.cell? ⟨w.heap.size + 1, 0, none⟩ = some (.slice a0 n0 c0) from (hx.cell (p := ⟨w.heap.size + 1, 0, none⟩) (by show w.heap.size + 1 < _; omega)).trans m0)
    clear hnn R1 M1 hd ha1 hre
    go_upto_region 4 with fail
    have mA := CELL.out _ HA1.out
    go_region_held3 (fun w' => w'.cell? ⟨w.heap.size + 1, 0, none⟩ = some (.slice a0 n0 c0)) (first | with_reducible assumption | go_keep)
      (first
        | (refine step_append_two _ (by rfl) _ _ (by rfl) i0 (.agg #[.int .i64 0, .int .i64 0]) Try.underlying26 hi hz0 hz1 hz2 rfl w1.heap.size _ [] (by rfl) HRE.out a1 n1 c1 w.heap.size plan (by rfl) (HTJ.out _ HA1.out) (by simp) HA1.out.size ?_
           intro ap np cp w2 hr hg
           rw [List.nil_append] at hr
           have hb2 : Below w1.heap.size w1 w2 := HA1.out.trans ((Below.refl w1.heap.size _).grown hg HA1.out.size fun q hq => by cases hq; exact Nat.le_refl _)
           obtain ⟨ap', cp', e', -, -, -⟩ := hr.form
           obtain ⟨rfl, rfl, rfl⟩ : ap = ap' ∧ np = plan.length ∧ cp = cp' := by simpa using e'
           have m2 := CELL.out _ hb2
           have HR2 := Lib.hid hr
           have HB2 := Lib.hid hb2
           clear hr hg hb2 e')
        | (go_simp
           go_at_call 33
           refine (HO.out _ HB2.out).mono ?_
           rintro e w3 ⟨v3, rfl, hl3, hb3⟩
           obtain ⟨ao, co, rfl, -, -⟩ := hl3.form
           have m3 := CELL.out _ (HB2.out.trans (hb3.mono HB2.out.size))
           have HL3 := Lib.hid hl3
           have HB3 := Lib.hid hb3
           clear hl3 hb3)
        | (go_simp
           go_at_call 34
           refine (HZ.out _ (HB2.out.trans (HB3.out.mono HB2.out.size))).mono ?_
           rintro e w4 ⟨es4, rfl, hr4, hb4⟩
           obtain ⟨ag, ng, cg, rfl, hg1, hg2, hg3⟩ := shGrads_reads.1 hr4
           have hbb := HB2.out.trans ((HB3.out.trans (hb4.mono HB3.out.size)).mono HB2.out.size)
           have m4 := CELL.out _ hbb
           have R4 := (hbb.block w.heap.size (by omega)).trans R1'.out
           have cc0 := box14 R4 0 _ rfl
           have f0 : w4.frozen? ⟨w.heap.size, 0, none⟩ = false := frozen_of_row _ _ _ _ _ R4
           have cc1 := box14 R4 1 _ rfl
           have f1 : w4.frozen? ⟨w.heap.size, 1, none⟩ = false := frozen_of_row _ _ _ _ _ R4
           have cc2 := box14 R4 2 _ rfl
           have f2 : w4.frozen? ⟨w.heap.size, 2, none⟩ = false := frozen_of_row _ _ _ _ _ R4
           have cc3 := box14 R4 3 _ rfl
           have f3 : w4.frozen? ⟨w.heap.size, 3, none⟩ = false := frozen_of_row _ _ _ _ _ R4
           have cc4 := box14 R4 4 _ rfl
           have f4 : w4.frozen? ⟨w.heap.size, 4, none⟩ = false := frozen_of_row _ _ _ _ _ R4
           have cc5 := box14 R4 5 _ rfl
           have f5 : w4.frozen? ⟨w.heap.size, 5, none⟩ = false := frozen_of_row _ _ _ _ _ R4
           have cc6 := box14 R4 6 _ rfl
           have f6 : w4.frozen? ⟨w.heap.size, 6, none⟩ = false := frozen_of_row _ _ _ _ _ R4
           have cc7 := box14 R4 7 _ rfl
           have f7 : w4.frozen? ⟨w.heap.size, 7, none⟩ = false := frozen_of_row _ _ _ _ _ R4
           have cc8 := box14 R4 8 _ rfl
           have f8 : w4.frozen? ⟨w.heap.size, 8, none⟩ = false := frozen_of_row _ _ _ _ _ R4
           have cc9 := box14 R4 9 _ rfl
           have f9 : w4.frozen? ⟨w.heap.size, 9, none⟩ = false := frozen_of_row _ _ _ _ _ R4
           have cc10 := box14 R4 10 _ rfl
           have f10 : w4.frozen? ⟨w.heap.size, 10, none⟩ = false := frozen_of_row _ _ _ _ _ R4
           have cc11 := box14 R4 11 _ rfl
           have f11 : w4.frozen? ⟨w.heap.size, 11, none⟩ = false := frozen_of_row _ _ _ _ _ R4
           have cc12 := box14 R4 12 _ rfl
           have f12 : w4.frozen? ⟨w.heap.size, 12, none⟩ = false := frozen_of_row _ _ _ _ _ R4
           have cc13 := box14 R4 13 _ rfl
           have f13 : w4.frozen? ⟨w.heap.size, 13, none⟩ = false := frozen_of_row _ _ _ _ _ R4
           have HB4 := Lib.hid hb4
           have HG4 := Lib.hid hg3
           have HBB := Lib.hid hbb
           have R4' := Lib.hid R4
           clear hr4 hb4 hg3 hbb R4))
    obtain ⟨e1, e2, e3, e4⟩ := stage_boxed R4'.out (.int .i64 0) (.slice ap plan.length cp) (.slice ao ops.length co) (.bool last) (.bool redo) (.slice none 0 0) (.slice none 0 0) (.slice none 0 0) (.slice none 0 0) (.slice none 0 0) (.slice none 0 0) (.slice ag ng cg) (.int .i64 (zeroG ops).2.1) (.bool (zeroG ops).2.2)
    have hbw := e4 w.heap.size w (Nat.le_refl _) (A1.out.trans (HBB.out.mono A1.out.size))
    have hs1 := A1.out.size
    have hs2 := HB2.out.size
    have hs3 := HB3.out.size
    have hs4 := HB4.out.size
    have E1 := Lib.hid e1
    have E2 := Lib.hid e2
    have E3 := Lib.hid e3
    have HBW := Lib.hid hbw
    clear e1 e2 e3 e4 hbw
    go_wp2_with fail
    refine bodyPost_ret (results_cell_row rfl _ _ w.heap.size 34 #[.int .i64 0, .slice ap plan.length cp, .slice ao ops.length co, .bool last, .bool redo, .slice none 0 0, .slice none 0 0, .slice none 0 0, .slice none 0 0, .slice none 0 0, .slice none 0 0, .slice ag ng cg, .int .i64 (zeroG ops).2.1, .bool (zeroG ops).2.2] (0, 0) _ rfl E1.out Try.underlying34 rfl (by kernel_rfl)) rfl ?_
    refine ⟨[.int .i64 0, .slice ap plan.length cp, .slice ao ops.length co, .bool last, .bool redo, .slice none 0 0, .slice none 0 0, .slice none 0 0, .slice none 0 0, .slice none 0 0, .slice none 0 0, .slice ag ng cg, .int .i64 (zeroG ops).2.1, .bool (zeroG ops).2.2], rfl, ?_, HBW.out⟩
    rw [NN.out]
    have e0 : ∀ {α : Type} (S : Shape α) (wx : World) (I : Nat → Prop), (0 ≤ 0 ∧ 0 ≤ 9223372036854775807 ∧ ListAt S I wx none 0 ([] : List α)) := fun S wx I => ⟨Nat.le_refl _, by omega, rfl, fun j x hx => by simp at hx⟩
    obtain ⟨ap', np', cp', e', r1, r2, r3⟩ := TwoR.listAt HR2.out
    obtain ⟨rfl, rfl, rfl⟩ : ap = ap' ∧ plan.length = np' ∧ cp = cp' := by simpa using e'
    obtain ⟨ao', co', e5, o2, o3, o4⟩ := HL3.out.list (by decide)
    cases e5
    have o5 := o4.listAt (I := fun b => w2.heap.size ≤ b ∧ b < w3.heap.size) (fun b o f => f) (by decide)
    have hin : ∀ b, w.heap.size + 1 ≤ b → b < w4.heap.size → b ≠ w.heap.size := fun b hb _ => by omega
    refine shStage_reads.2 ⟨_, _, _, _, _, _, _, _, _, _, _, _, _, _, _, _, _, _, _, _, _, _, _, _, _, _, _, rfl, ⟨r1, r2, ?_⟩, ⟨o2, o3, ?_⟩, e0 _ _ _, e0 _ _ _, e0 _ _ _, e0 _ _ _, e0 _ _ _, e0 _ _ _, ⟨hg1, hg2, ?_⟩⟩
    · refine (r3.keep fun b hb => (E3.out b (by have := hb.1; omega)).trans ((HB4.out.block b (by have := hb.2; omega)).trans (HB3.out.block b hb.2))).sub fun b hb => ⟨by have := hb.1; omega, ?_⟩
      rw [E2.out]
      have := hb.2
      omega
    · refine (o5.keep fun b hb => (E3.out b (by have := hb.1; omega)).trans (HB4.out.block b hb.2)).sub fun b hb => ⟨by have := hb.1; omega, ?_⟩
      rw [E2.out]
      have := hb.2
      omega
    · refine (HG4.out.keep fun b hb => E3.out b (by have := hb.1; omega)).sub fun b hb => ⟨by have := hb.1; omega, ?_⟩
      rw [E2.out]
      exact hb.2
end Go.Proofs.Ytpnifgpmleaohaa

end

/-! YtpnifgpmleaohaaStgB -/
section

namespace Go.Proofs.Ytpnifgpmleaohaa
open Go.RowKit
set_option linter.unusedVariables false

theorem new_small (ops : List dOp) (plan : List dIns) (last redo : Bool) (h0 : (Shape.list shOp).bulk ops ≤ 1048576) (h1 : (Shape.list shIns).bulk plan ≤ 1048576) : smallStage (newN ops plan last redo) := by
  have e0 : ∀ {α : Type} (S : Shape α), (Shape.list S).bulk ([] : List α) ≤ 1048576 := fun S => Nat.zero_le _
  unfold newN
  split
  · have hz := zero_bulk ops
    rw [shGrads_bulk] at hz
    exact ⟨h1, h0, looseSavedS_of (e0 _), e0 _, e0 _, e0 _, e0 _, e0 _, hz⟩
  · exact ⟨e0 _, e0 _, looseSavedS_of (e0 _), e0 _, e0 _, e0 _, e0 _, e0 _, e0 _⟩
theorem specStageNew_o (w : World) (a0 : Option Addr) (n0 c0 : Nat) (ops : List dOp) (h0 : ListAt shOp (Under w.heap.size) w a0 n0 ops) (p0 : n0 ≤ c0) (q0 : c0 ≤ 9223372036854775807) (hb0 : (Shape.list shOp).bulk ops ≤ 1048576)
    (a1 : Option Addr) (n1 c1 : Nat) (plan : List dIns) (h1 : ListAt shIns (Under w.heap.size) w a1 n1 plan) (p1 : n1 ≤ c1) (q1 : c1 ≤ 9223372036854775807) (hb1 : (Shape.list shIns).bulk plan ≤ 1048576) (last redo : Bool) :
    Calls Try.prog 9 #[.slice a0 n0 c0, .slice a1 n1 c1, .bool last, .bool redo] w fun e w' => ∃ es', e = .returned (.agg (es' : List Value).toArray) ∧ shStage.reads (From w.heap.size w'.heap.size) w' es' (newN ops plan last redo) ∧ Below w.heap.size w w' :=
  specNew_o w a0 n0 c0 ops h0 p0 q0 hb0 a1 n1 c1 plan h1 hb1 last redo
end Go.Proofs.Ytpnifgpmleaohaa

end

/-! YtpnifgpmleaohaaStgC -/
section

namespace Go.Proofs.Ytpnifgpmleaohaa
open Go.RowKit Go.Sort
set_option linter.unusedVariables false
set_option linter.unusedSimpArgs false

end Go.Proofs.Ytpnifgpmleaohaa

end

/-! YtpnifgpmleaohaaStgE -/
section

namespace Go.Proofs.Ytpnifgpmleaohaa
open Go.RowKit Go.Sort
set_option linter.unusedVariables false
set_option linter.unusedSimpArgs false

/-- A list of a call's own, in the blocks from lo to hi. -/
def LL {α : Type} (S : Shape α) (lo hi : Nat) (wx : World) (v : Value) (xs : List α) : Prop := hi ≤ wx.heap.size ∧ ∃ a n c, v = .slice a n c ∧ n ≤ c ∧ c ≤ 9223372036854775807 ∧ ListAt S (From lo hi) wx a n xs
/-- What lies from lo on stays there. -/
def Grew (lo : Nat) (wx wy : World) : Prop := wx.heap.size ≤ wy.heap.size ∧ ∀ b, lo ≤ b → b < wx.heap.size → wy.heap[b]? = wx.heap[b]?
theorem Grew.refl (lo : Nat) (wx : World) : Grew lo wx wx := ⟨Nat.le_refl _, fun _ _ _ => rfl⟩
theorem Grew.trans {lo : Nat} {wx wy wz : World} (h : Grew lo wx wy) (h' : Grew lo wy wz) : Grew lo wx wz := ⟨Nat.le_trans h.1 h'.1, fun b h1 h2 => (h'.2 b h1 (Nat.lt_of_lt_of_le h2 h.1)).trans (h.2 b h1 h2)⟩
theorem Grew.called {lo : Nat} {wx wy : World} (h : Below wx.heap.size wx wy) : Grew lo wx wy := ⟨h.size, fun b _ h2 => h.block b h2⟩
theorem Grew.stored {lo g : Nat} (hg : g < lo) (wx : World) (i : Nat) (u : Value) : Grew lo wx (wx.setCell ⟨g, i, none⟩ u) := ⟨by simp, fun b h1 _ => heap_setCell_other _ _ _ _ (by show b ≠ g; omega)⟩
theorem Grew.both {lo g : Nat} (hg : g < lo) {wx wy : World} (h : Below wx.heap.size wx wy) (i : Nat) (u : Value) : Grew lo wx (wy.setCell ⟨g, i, none⟩ u) := (Grew.called h).trans (Grew.stored hg _ _ _)
theorem LL.grew {α : Type} {S : Shape α} {lo0 lo hi : Nat} {wx wy : World} {v : Value} {xs : List α} (h : LL S lo hi wx v xs) (hg : Grew lo0 wx wy) (hl : lo0 ≤ lo) : LL S lo hi wy v xs := by
  obtain ⟨h0, a, n, c, e, h1, h2, h3⟩ := h
  exact ⟨Nat.le_trans h0 hg.1, a, n, c, e, h1, h2, h3.keep fun b hb => hg.2 b (Nat.le_trans hl hb.1) (Nat.lt_of_lt_of_le hb.2 h0)⟩
theorem LL.wide {α : Type} {S : Shape α} {lo hi lo' hi' : Nat} {wx : World} {v : Value} {xs : List α} (h : LL S lo hi wx v xs) (hl : lo' ≤ lo) (hh : hi ≤ hi') (ht : hi' ≤ wx.heap.size) : LL S lo' hi' wx v xs := by
  obtain ⟨h0, a, n, c, e, h1, h2, h3⟩ := h
  exact ⟨ht, a, n, c, e, h1, h2, h3.sub fun b hb => ⟨Nat.le_trans hl hb.1, Nat.lt_of_lt_of_le hb.2 hh⟩⟩
theorem LL.ofL {α : Type} {S : Owned α} {T : TypeId} {lo hi : Nat} {w : World} {v : Value} {xs : List α} (h : ListL S T lo hi w v xs) (hS : 0 < S.size) : LL S.toShape lo hi w v xs := by
  obtain ⟨a, c, e, h1, h2, h3⟩ := h.list hS
  exact ⟨h.top, a, xs.length, c, e, h1, h2, h3.listAt (fun b o f => f) hS⟩
theorem LL.ofRow {base : Nat} {w : World} {v : Value} {xs : List Int} (h : Row base w v xs) : LL Shape.int base w.heap.size w v xs := by
  obtain ⟨a, n, c, e, h1, h2, h3⟩ := h.own
  exact ⟨Nat.le_refl _, a, n, c, by simpa using e, h1, h2, h3.listAt (fun b o f => f) (by decide)⟩
theorem LL.ofTwo {T : TypeId} {base : Nat} {w : World} {v : Value} {xs : List dTwo} (h : TwoR T base w v xs) : LL shTwo base w.heap.size w v xs := by
  obtain ⟨a, n, c, e, h1, h2, h3⟩ := TwoR.listAt h
  exact ⟨Nat.le_refl _, a, n, c, by simpa using e, h1, h2, h3⟩
theorem ListL.grew {α : Type} {S : Owned α} {T : TypeId} {lo0 lo hi : Nat} {wx wy : World} {v : Value} {xs : List α} (h : ListL S T lo hi wx v xs) (hg : Grew lo0 wx wy) (hl : lo0 ≤ lo) : ListL S T lo hi wy v xs :=
  h.keepB (fun b h1 h2 => hg.2 b (Nat.le_trans hl h1) (Nat.lt_of_lt_of_le h2 h.top)) (Nat.le_trans h.top hg.1)
/-- A row that a call made, within its blocks. -/
abbrev stageC (pc : Int) (v1 v2 : Value) (last redo : Bool) (v5 v6 v7 v8 v9 v10 v11 : Value) (loss : Int) (sat : Bool) : Array Value := #[.int .i64 pc, v1, v2, .bool last, .bool redo, v5, v6, v7, v8, v9, v10, v11, .int .i64 loss, .bool sat]
end Go.Proofs.Ytpnifgpmleaohaa

end

/-! YtpnifgpmleaohaaStgQ -/
section

namespace Go.Proofs.Ytpnifgpmleaohaa
open Go.RowKit Go.Sort
set_option linter.unusedVariables false
set_option linter.unusedSimpArgs false

set_option maxRecDepth 100000 in
set_option maxHeartbeats 3200000 in
theorem implCopyRow_o (w : World) (ax : Option Addr) (nx cx : Nat) (x : List Int) (h : IntsIn w.heap.size w ax nx x) :
    Calls Try.prog 85 #[.agg #[.slice ax nx cx]] w fun e w' => ∃ ar cr, e = .returned (.agg #[.slice ar nx cr]) ∧ Row w.heap.size w' (.slice ar nx cr) x ∧ Below w.heap.size w w' := by
  have h2 : ((w.alloc (.cells #[.slice ax nx cx] 88 (0, 0))).alloc (.cells #[.slice none 0 0] 88 (0, 0))).heap.size = w.heap.size + 2 := by simp
  have hb0 : ((w.alloc (.cells #[.slice ax nx cx] 88 (0, 0))).alloc (.cells #[.slice none 0 0] 88 (0, 0))).heap[w.heap.size]? = some (.cells #[.slice ax nx cx] 88 (0, 0)) := by
    rw [Below.heap_alloc _ _ _ (by simp)]
    exact heap_alloc_new w _
  have hb1 : ((w.alloc (.cells #[.slice ax nx cx] 88 (0, 0))).alloc (.cells #[.slice none 0 0] 88 (0, 0))).heap[w.heap.size + 1]? = some (.cells #[.slice none 0 0] 88 (0, 0)) := by
    have := heap_alloc_new (w.alloc (.cells #[.slice ax nx cx] 88 (0, 0))) (.cells #[.slice none 0 0] 88 (0, 0))
    simpa using this
  have hal : Below w.heap.size w ((w.alloc (.cells #[.slice ax nx cx] 88 (0, 0))).alloc (.cells #[.slice none 0 0] 88 (0, 0))) := ((Below.refl _ _).alloc (Nat.le_refl _) _).alloc (by simp) _
  have HX := Lib.hid h
  have HB0 := Lib.hid hb0
  have HB1 := Lib.hid hb1
  have HA := Lib.hid hal
  have HS := Lib.hid h2
  clear h hb0 hb1 hal h2
  go_enter Try.func85, Try.ntmps85
  go_upto_region 1 with fail
  generalize (w.alloc (.cells #[.slice ax nx cx] 88 (0, 0))).alloc (.cells #[.slice none 0 0] 88 (0, 0)) = W0 at HB0 HB1 HA HS ⊢
  have hs := HS.out
  have z0 := box14 HB0.out 0 _ rfl
  go_wp2_with fail
  refine (implCloneAll_o W0 ax nx cx x ((HX.out.below HA.out (Nat.le_refl _)).le (by omega))).mono ?_
  rintro e w2 ⟨ar, cr, rfl, hr, hb⟩
  have hk := (hb.block _ (by omega)).trans HB1.out
  have r0 : w2.cell? ⟨w.heap.size + 1, 0, none⟩ = some (.slice none 0 0) := box14 hk 0 _ rfl
  have f0 : w2.frozen? ⟨w.heap.size + 1, 0, none⟩ = false := frozen_of_row _ _ _ _ _ hk
  have hne : ∀ k, (Value.slice ar nx cr).ownBlock = some k → k ≠ w.heap.size + 1 := fun k hk => by have := (Row.lt hr k hk).1; omega
  have hrr : Row w.heap.size (w2.setCell ⟨w.heap.size + 1, 0, none⟩ (.slice ar nx cr)) (.slice ar nx cr) x := Row.le (ownsRow_set hr 0 (.slice ar nx cr) hne) HA.out.size
  have hbb : Below w.heap.size w (w2.setCell ⟨w.heap.size + 1, 0, none⟩ (.slice ar nx cr)) := (HA.out.trans (hb.mono HA.out.size)).setCell (p := ⟨w.heap.size + 1, 0, none⟩) (Nat.le_add_right _ _) _
  have HRR := Lib.hid hrr
  have HBB := Lib.hid hbb
  have HK := Lib.hid hk
  clear hr hb hk hne hrr hbb z0
  go_wp2_with fail
  refine bodyPost_ret (results_cell_row rfl _ _ (w.heap.size + 1) 88 #[.slice ar nx cr] (0, 0) _ rfl ?_ Try.underlying88 rfl (by kernel_rfl)) rfl ?_
  · simpa using heap_setCell_same w2 (w.heap.size + 1) 0 _ _ (.slice ar nx cr) HK.out
  exact ⟨ar, cr, rfl, HRR.out, HBB.out⟩
theorem eg_copyRow : ∀ args w, (callFunc 85 args).run Try.prog w = .ok (.enter 85 args) w := enters_of Try.func85 (by kernel_rfl) rfl
set_option maxRecDepth 100000 in
set_option maxHeartbeats 6400000 in
theorem implEachRow_o (w : World) (a : Option Addr) (n c : Nat) (l : List dRow) (h : ListAt shRow (Under w.heap.size) w a n l) (hn : n ≤ 1048576) (hb : ∀ (j : Nat) (x : dRow), l[j]? = some x → shRow.bulk x ≤ 1048576) :
    Calls Try.prog 84 #[.slice a n c, .func (.func 85) #[] #[]] w fun e w' => ∃ v, e = .returned v ∧ ListL ownRow 88 w.heap.size w'.heap.size w' v l ∧ Below w.heap.size w w' := by
  obtain ⟨i0, hi, hz0, hz1, hz2⟩ := info_parts infoAll_Row
  have HL := Lib.hid h
  have HLEN := Lib.hid h.1
  have HBK := Lib.hid hb
  have eg := eg_copyRow
  clear h hb
  go_enter Try.func84, Try.ntmps84
  go_wp2_with fail
  go_loopw [5, 10] (fun v i wr => ∃ k : Nat, k ≤ n ∧ i = .int .i64 k ∧ ListL ownRow 88 w.heap.size wr.heap.size wr v (l.take k) ∧ Below w.heap.size w wr) (fun _ i _ => n - (intOf i).toNat)
  case atStart => exact ⟨0, Nat.zero_le _, rfl, ListL.nil _ _ (Nat.le_refl _), Below.refl _ _⟩
  case round =>
    obtain ⟨k, hk, rfl, hl, hb⟩ := hrel
    have hsz := hb.size
    by_cases hlt : k < n
    · obtain ⟨b, o, x, ax, nx, cx, hx, rfl, hbB, hc0, -, -, hlx⟩ := row_at HL.out k hlt
      have hbx := HBK.out k x hx
      rw [shRow_bulk, bulk_ints, hlx.1] at hbx
      have hix := hlx.ints hbx
      have d0 := (hb.cell (p := ⟨b, o + k, none⟩) hbB).trans hc0
      have htk : l.take (k + 1) = l.take k ++ [x] := by rw [List.take_add_one, hx]; rfl
      obtain ⟨av, cv, rfl, -, -⟩ := hl.form
      have htl : (l.take k).length = k := by rw [List.length_take, HLEN.out]; omega
      rw [htl] at hl ⊢
      have hal := (Below.refl wr.heap.size wr).alloc (Nat.le_refl _) (.cells #[.slice ax nx cx] 88 (0, 0))
      have hbk := heap_alloc_new wr (.cells #[.slice ax nx cx] 88 (0, 0))
      have hs1 : (wr.alloc (.cells #[.slice ax nx cx] 88 (0, 0))).heap.size = wr.heap.size + 1 := by simp
      have hwb := hb.trans (hal.mono hsz)
      have hcp := implCopyRow_o (wr.alloc (.cells #[.slice ax nx cx] 88 (0, 0))) ax nx cx x ((hix.below hwb (Nat.le_refl _)).le hwb.size)
      have HLK := Lib.hid (hl.below hal (Nat.le_refl _))
      have HTK := Lib.hid htk
      have HTL := Lib.hid htl
      skip
      have HBW := Lib.hid hwb
      have HAL := Lib.hid hal
      have HBN := Lib.hid hbk
      have HS1 := Lib.hid hs1
      have HCP := Lib.hid hcp
      clear hx hlx hc0 hix  htk htl hl hb hbx hbB hal hbk hs1 hwb hcp
      go_upto_region 5 with fail
      clear d0
      generalize wr.alloc (.cells #[.slice ax nx cx] 88 (0, 0)) = wb at HLK HBW HAL HBN HS1 HCP ⊢
      have y0 := box14 HBN.out 0 _ rfl
      go_wp2_with fail
      refine HCP.out.mono ?_
      rintro e w2 ⟨ar, cr, rfl, hr, hb2⟩
      have how : ownRow.owns (FromB wb.heap.size w2.heap.size) w2 [.slice ar nx cr] x := hr.ownRow
      have HOW := Lib.hid how
      have HL2 := Lib.hid (HLK.out.below hb2 (by have := HS1.out; omega))
      have HB2 := Lib.hid hb2
      clear how hr hb2 y0
      go_wp2_with (at_builtin; refine plain_of_step (by rfl) fun K hK => ?_; refine of_step rfl (step_append_one (ops := #[]) w2 (S := ownRow) (T := 88) (Ts := 29) (by rfl) _ _ (by rfl) i0 (.agg #[.slice none 0 0]) 24 Try.underlying29 hi hz0 hz1 hz2 rfl (by decide) (by decide) w.heap.size wr.heap.size hsz _ (l.take k) x [.slice ar nx cr] (FromB wb.heap.size w2.heap.size) (by rfl) HL2.out HOW.out (fun b o f => ⟨by have := f.1; have := HS1.out; omega, f.2⟩) (slices_one _ _ _) (by rfl) (by rw [HTL.out]; omega) ?_); intro av' nv' cv' w4 hl4 hb4 _ _; have HL4 := Lib.hid hl4; have HB4 := Lib.hid (HBW.out.trans ((HB2.out.mono HBW.out.size).trans hb4)); clear hl4 hb4; refine hK _ _ ?_; clear hK K)
      go_roundw
      case rel =>
        refine ⟨k + 1, by omega, by go_num, ?_, HB4.out⟩
        rw [HTK.out]
        exact HL4.out
      case measure => simp [intOf]; omega
    · obtain rfl : k = n := by omega
      rw [List.take_of_length_le (Nat.le_of_eq HLEN.out)] at hl
      have HLL := Lib.hid hl
      have HBW := Lib.hid hb
      clear hl hb
      go_wp2_with fail
      go_ret
      exact ⟨_, rfl, HLL.out, HBW.out⟩
set_option maxRecDepth 100000 in
set_option maxHeartbeats 3200000 in
theorem implCopyOp_o (w : World) (K0 K1 K2 : Int) (ax : Option Addr) (nx cx : Nat) (x : List Int) (h : IntsIn w.heap.size w ax nx x) :
    Calls Try.prog 81 #[.agg #[.int .i64 K0, .int .i64 K1, .int .i64 K2, .slice ax nx cx]] w fun e w' => ∃ ar cr, e = .returned (.agg #[.int .i64 K0, .int .i64 K1, .int .i64 K2, .slice ar nx cr]) ∧ Row w.heap.size w' (.slice ar nx cr) x ∧ Below w.heap.size w w' := by
  have h2 : ((w.alloc (.cells #[.int .i64 K0, .int .i64 K1, .int .i64 K2, .slice ax nx cx] 69 (0, 0))).alloc (.cells #[.int .i64 0, .int .i64 0, .int .i64 0, .slice none 0 0] 69 (0, 0))).heap.size = w.heap.size + 2 := by simp
  have hb0 : ((w.alloc (.cells #[.int .i64 K0, .int .i64 K1, .int .i64 K2, .slice ax nx cx] 69 (0, 0))).alloc (.cells #[.int .i64 0, .int .i64 0, .int .i64 0, .slice none 0 0] 69 (0, 0))).heap[w.heap.size]? = some (.cells #[.int .i64 K0, .int .i64 K1, .int .i64 K2, .slice ax nx cx] 69 (0, 0)) := by
    rw [Below.heap_alloc _ _ _ (by simp)]
    exact heap_alloc_new w _
  have hb1 : ((w.alloc (.cells #[.int .i64 K0, .int .i64 K1, .int .i64 K2, .slice ax nx cx] 69 (0, 0))).alloc (.cells #[.int .i64 0, .int .i64 0, .int .i64 0, .slice none 0 0] 69 (0, 0))).heap[w.heap.size + 1]? = some (.cells #[.int .i64 0, .int .i64 0, .int .i64 0, .slice none 0 0] 69 (0, 0)) := by
    have := heap_alloc_new (w.alloc (.cells #[.int .i64 K0, .int .i64 K1, .int .i64 K2, .slice ax nx cx] 69 (0, 0))) (.cells #[.int .i64 0, .int .i64 0, .int .i64 0, .slice none 0 0] 69 (0, 0))
    simpa using this
  have hal : Below w.heap.size w ((w.alloc (.cells #[.int .i64 K0, .int .i64 K1, .int .i64 K2, .slice ax nx cx] 69 (0, 0))).alloc (.cells #[.int .i64 0, .int .i64 0, .int .i64 0, .slice none 0 0] 69 (0, 0))) := ((Below.refl _ _).alloc (Nat.le_refl _) _).alloc (by simp) _
  have HX := Lib.hid h
  have HB0 := Lib.hid hb0
  have HB1 := Lib.hid hb1
  have HA := Lib.hid hal
  have HS := Lib.hid h2
  clear h hb0 hb1 hal h2
  go_enter Try.func81, Try.ntmps81
  go_upto_region 1 with fail
  generalize (w.alloc (.cells #[.int .i64 K0, .int .i64 K1, .int .i64 K2, .slice ax nx cx] 69 (0, 0))).alloc (.cells #[.int .i64 0, .int .i64 0, .int .i64 0, .slice none 0 0] 69 (0, 0)) = W0 at HB0 HB1 HA HS ⊢
  have hs := HS.out
  have z3 := box14 HB0.out 3 _ rfl
  go_wp2_with fail
  refine (implCloneAll_o W0 ax nx cx x ((HX.out.below HA.out (Nat.le_refl _)).le (by omega))).mono ?_
  rintro e w2 ⟨ar, cr, rfl, hr, hb⟩
  have hk0 := (hb.block _ (by omega)).trans HB0.out
  have hk1 := (hb.block _ (by omega)).trans HB1.out
  have r3 : w2.cell? ⟨w.heap.size, 3, none⟩ = some (.slice ax nx cx) := box14 hk0 3 _ rfl
  have f3 : w2.frozen? ⟨w.heap.size, 3, none⟩ = false := frozen_of_row _ _ _ _ _ hk0
  have g0 := heap_setCell_same w2 w.heap.size 3 _ _ (.slice ar nx cr) hk0
  have g1 : (w2.setCell ⟨w.heap.size, 3, none⟩ (.slice ar nx cr)).heap[w.heap.size + 1]? = _ := (Below.heap_setCell _ _ _ _ (by show w.heap.size + 1 ≠ w.heap.size; omega)).trans hk1
  have hne : ∀ k, (Value.slice ar nx cr).ownBlock = some k → k ≠ w.heap.size := fun k hk => by have := (Row.lt hr k hk).1; omega
  have hrr := ownsRow_set hr 3 (.slice ar nx cr) hne
  have hbb : Below w.heap.size w (w2.setCell ⟨w.heap.size, 3, none⟩ (.slice ar nx cr)) := (HA.out.trans (hb.mono HA.out.size)).setCell (p := ⟨w.heap.size, 3, none⟩) (Nat.le_refl _) _
  have HRR := Lib.hid (show Row W0.heap.size (w2.setCell ⟨w.heap.size, 3, none⟩ (.slice ar nx cr)) (.slice ar nx cr) x from hrr)
  have HBB := Lib.hid hbb
  have HG0 := Lib.hid g0
  have HG1 := Lib.hid g1
  clear hr hb hk0 hk1 hne hrr hbb z3 g0 g1
  go_upto_region 2 with fail
  clear r3 f3
  generalize w2.setCell ⟨w.heap.size, 3, none⟩ (.slice ar nx cr) = w3 at HRR HBB HG0 HG1 ⊢
  have y0 := box14 HG0.out 0 _ rfl
  have y1 := box14 HG0.out 1 _ rfl
  have y2 := box14 HG0.out 2 _ rfl
  have y3 := box14 HG0.out 3 _ rfl
  have q0 := box14 HG1.out 0 _ rfl
  have q1 := box14 HG1.out 1 _ rfl
  have q2 := box14 HG1.out 2 _ rfl
  have q3 := box14 HG1.out 3 _ rfl
  have f0 : w3.frozen? ⟨w.heap.size + 1, 0, none⟩ = false := frozen_of_row _ _ _ _ _ HG1.out
  have f1 : w3.frozen? ⟨w.heap.size + 1, 1, none⟩ = false := frozen_of_row _ _ _ _ _ HG1.out
  have f2 : w3.frozen? ⟨w.heap.size + 1, 2, none⟩ = false := frozen_of_row _ _ _ _ _ HG1.out
  have f3 : w3.frozen? ⟨w.heap.size + 1, 3, none⟩ = false := frozen_of_row _ _ _ _ _ HG1.out
  have hne : ∀ k, (Value.slice ar nx cr).ownBlock = some k → k ≠ w.heap.size + 1 := fun k hk => by have := (Row.lt HRR.out k hk).1; omega
  have hrr : Row w.heap.size ((((w3.setCell ⟨w.heap.size + 1, 0, none⟩ (.int .i64 K0)).setCell ⟨w.heap.size + 1, 1, none⟩ (.int .i64 K1)).setCell ⟨w.heap.size + 1, 2, none⟩ (.int .i64 K2)).setCell ⟨w.heap.size + 1, 3, none⟩ (.slice ar nx cr)) (.slice ar nx cr) x := Row.le (ownsRow_set (ownsRow_set (ownsRow_set (ownsRow_set HRR.out 0 (.int .i64 K0) hne) 1 (.int .i64 K1) hne) 2 (.int .i64 K2) hne) 3 (.slice ar nx cr) hne) HA.out.size
  have hbb : Below w.heap.size w ((((w3.setCell ⟨w.heap.size + 1, 0, none⟩ (.int .i64 K0)).setCell ⟨w.heap.size + 1, 1, none⟩ (.int .i64 K1)).setCell ⟨w.heap.size + 1, 2, none⟩ (.int .i64 K2)).setCell ⟨w.heap.size + 1, 3, none⟩ (.slice ar nx cr)) := (((HBB.out.setCell (p := ⟨w.heap.size + 1, 0, none⟩) (Nat.le_add_right _ _) _).setCell (p := ⟨w.heap.size + 1, 1, none⟩) (Nat.le_add_right _ _) _).setCell (p := ⟨w.heap.size + 1, 2, none⟩) (Nat.le_add_right _ _) _).setCell (p := ⟨w.heap.size + 1, 3, none⟩) (Nat.le_add_right _ _) _
  have hk4 := heap_setCell_same _ _ 3 _ _ (.slice ar nx cr) (heap_setCell_same _ _ 2 _ _ (.int .i64 K2) (heap_setCell_same _ _ 1 _ _ (.int .i64 K1) (heap_setCell_same _ _ 0 _ _ (.int .i64 K0) HG1.out)))
  have HR4 := Lib.hid hrr
  have HB4 := Lib.hid hbb
  have HK4 := Lib.hid hk4
  clear hrr hbb hk4 hne
  go_wp2_with fail
  refine bodyPost_ret (results_cell_row rfl _ _ (w.heap.size + 1) 69 #[.int .i64 K0, .int .i64 K1, .int .i64 K2, .slice ar nx cr] (0, 0) _ rfl ?_ Try.underlying69 rfl (by kernel_rfl)) rfl ?_
  · simpa using HK4.out
  exact ⟨ar, cr, rfl, HR4.out, HB4.out⟩
theorem eg_copyOp : ∀ args w, (callFunc 81 args).run Try.prog w = .ok (.enter 81 args) w := enters_of Try.func81 (by kernel_rfl) rfl
set_option maxRecDepth 100000 in
set_option maxHeartbeats 6400000 in
theorem implEachOp_o (w : World) (a : Option Addr) (n c : Nat) (l : List dOp) (h : ListAt shOp (Under w.heap.size) w a n l) (hn : n ≤ 1048576) (hb : ∀ (j : Nat) (x : dOp), l[j]? = some x → shOp.bulk x ≤ 1048576) :
    Calls Try.prog 80 #[.slice a n c, .func (.func 81) #[] #[]] w fun e w' => ∃ v, e = .returned v ∧ ListL ownOp 69 w.heap.size w'.heap.size w' v l ∧ Below w.heap.size w w' := by
  obtain ⟨i0, hi, hz0, hz1, hz2⟩ := info_parts infoAll_Op
  have HL := Lib.hid h
  have HLEN := Lib.hid h.1
  have HBK := Lib.hid hb
  have eg := eg_copyOp
  clear h hb
  go_enter Try.func80, Try.ntmps80
  go_wp2_with fail
  go_loopw [5, 10] (fun v i wr => ∃ k : Nat, k ≤ n ∧ i = .int .i64 k ∧ ListL ownOp 69 w.heap.size wr.heap.size wr v (l.take k) ∧ Below w.heap.size w wr) (fun _ i _ => n - (intOf i).toNat)
  case atStart => exact ⟨0, Nat.zero_le _, rfl, ListL.nil _ _ (Nat.le_refl _), Below.refl _ _⟩
  case round =>
    obtain ⟨k, hk, rfl, hl, hb⟩ := hrel
    have hsz := hb.size
    by_cases hlt : k < n
    · obtain ⟨b, o, x, ax, nx, cx, hx, rfl, hbB, hc0, hc1, hc2, hc3, -, -, hlx⟩ := op_at HL.out k hlt
      have hbx := HBK.out k x hx
      rw [shOp_bulk, bulk_ints, hlx.1] at hbx
      have hix := hlx.ints hbx
      obtain ⟨K0, hA⟩ : ∃ M, x.1 = M := ⟨_, rfl⟩
      obtain ⟨K1, hI⟩ : ∃ M, x.2.1 = M := ⟨_, rfl⟩
      obtain ⟨K2, hO⟩ : ∃ M, x.2.2.1 = M := ⟨_, rfl⟩
      rw [hA] at hc0
      rw [hI] at hc1
      rw [hO] at hc2
      have hxe : x = (K0, K1, K2, x.2.2.2) := by rw [← hA, ← hI, ← hO]
      have d0 := (hb.cell (p := ⟨b, o + k * 4, none⟩) hbB).trans hc0
      have d1 := (hb.cell (p := ⟨b, o + k * 4 + 1, none⟩) hbB).trans hc1
      have d2 := (hb.cell (p := ⟨b, o + k * 4 + 2, none⟩) hbB).trans hc2
      have d3 := (hb.cell (p := ⟨b, o + k * 4 + 3, none⟩) hbB).trans hc3
      have htk : l.take (k + 1) = l.take k ++ [x] := by rw [List.take_add_one, hx]; rfl
      obtain ⟨av, cv, rfl, -, -⟩ := hl.form
      have htl : (l.take k).length = k := by rw [List.length_take, HLEN.out]; omega
      rw [htl] at hl ⊢
      have hal := (Below.refl wr.heap.size wr).alloc (Nat.le_refl _) (.cells #[.int .i64 K0, .int .i64 K1, .int .i64 K2, .slice ax nx cx] 69 (0, 0))
      have hbk := heap_alloc_new wr (.cells #[.int .i64 K0, .int .i64 K1, .int .i64 K2, .slice ax nx cx] 69 (0, 0))
      have hs1 : (wr.alloc (.cells #[.int .i64 K0, .int .i64 K1, .int .i64 K2, .slice ax nx cx] 69 (0, 0))).heap.size = wr.heap.size + 1 := by simp
      have hwb := hb.trans (hal.mono hsz)
      have hcp := implCopyOp_o (wr.alloc (.cells #[.int .i64 K0, .int .i64 K1, .int .i64 K2, .slice ax nx cx] 69 (0, 0))) K0 K1 K2 ax nx cx x.2.2.2 ((hix.below hwb (Nat.le_refl _)).le hwb.size)
      have HLK := Lib.hid (hl.below hal (Nat.le_refl _))
      have HTK := Lib.hid htk
      have HTL := Lib.hid htl
      have HXE := Lib.hid hxe
      have HBW := Lib.hid hwb
      have HAL := Lib.hid hal
      have HBN := Lib.hid hbk
      have HS1 := Lib.hid hs1
      have HCP := Lib.hid hcp
      clear hx hlx hc0 hc1 hc2 hc3 hix hA hI hO hxe htk htl hl hb hbx hbB hal hbk hs1 hwb hcp
      go_upto_region 5 with fail
      clear d0 d1 d2 d3
      generalize wr.alloc (.cells #[.int .i64 K0, .int .i64 K1, .int .i64 K2, .slice ax nx cx] 69 (0, 0)) = wb at HLK HBW HAL HBN HS1 HCP ⊢
      have y0 := box14 HBN.out 0 _ rfl
      have y1 := box14 HBN.out 1 _ rfl
      have y2 := box14 HBN.out 2 _ rfl
      have y3 := box14 HBN.out 3 _ rfl
      go_wp2_with fail
      refine HCP.out.mono ?_
      rintro e w2 ⟨ar, cr, rfl, hr, hb2⟩
      have how : ownOp.owns (FromB wb.heap.size w2.heap.size) w2 [.int .i64 K0, .int .i64 K1, .int .i64 K2, .slice ar nx cr] (K0, K1, K2, x.2.2.2) := hr.ownOp K0 K1 K2
      have HOW := Lib.hid how
      have HL2 := Lib.hid (HLK.out.below hb2 (by have := HS1.out; omega))
      have HB2 := Lib.hid hb2
      clear how hr hb2 y0 y1 y2 y3
      go_wp2_with (at_builtin; refine plain_of_step (by rfl) fun K hK => ?_; refine of_step rfl (step_append_one (ops := #[]) w2 (S := ownOp) (T := 69) (Ts := 27) (by rfl) _ _ (by rfl) i0 (.agg #[.int .i64 0, .int .i64 0, .int .i64 0, .slice none 0 0]) 48 Try.underlying27 hi hz0 hz1 hz2 rfl (by decide) (by decide) w.heap.size wr.heap.size hsz _ (l.take k) (K0, K1, K2, x.2.2.2) [.int .i64 K0, .int .i64 K1, .int .i64 K2, .slice ar nx cr] (FromB wb.heap.size w2.heap.size) (by rfl) HL2.out HOW.out (fun b o f => ⟨by have := f.1; have := HS1.out; omega, f.2⟩) op_one (by rfl) (by rw [HTL.out]; omega) ?_); intro av' nv' cv' w4 hl4 hb4 _ _; have HL4 := Lib.hid hl4; have HB4 := Lib.hid (HBW.out.trans ((HB2.out.mono HBW.out.size).trans hb4)); clear hl4 hb4; refine hK _ _ ?_; clear hK K)
      go_roundw
      case rel =>
        refine ⟨k + 1, by omega, by go_num, ?_, HB4.out⟩
        rw [HTK.out, HXE.out]
        exact HL4.out
      case measure => simp [intOf]; omega
    · obtain rfl : k = n := by omega
      rw [List.take_of_length_le (Nat.le_of_eq HLEN.out)] at hl
      have HLL := Lib.hid hl
      have HBW := Lib.hid hb
      clear hl hb
      go_wp2_with fail
      go_ret
      exact ⟨_, rfl, HLL.out, HBW.out⟩
theorem saved_one {m : Int} {a : Option Addr} {n c : Nat} : ∀ u ∈ [Value.int .i64 m, .slice a n c], u.oneCell' = true := by
  intro u hu
  simp only [List.mem_cons, List.not_mem_nil, or_false] at hu
  rcases hu with rfl | rfl <;> rfl
theorem ListL.setFar {α : Type} {S : Owned α} {T : TypeId} {lo hi : Nat} {w : World} {v : Value} {xs : List α} (h : ListL S T lo hi w v xs) (g i : Nat) (u : Value) (hg : g < lo) : ListL S T lo hi (w.setCell ⟨g, i, none⟩ u) v xs :=
  h.keepB (fun b h1 h2 => heap_setCell_other _ _ _ _ (by show b ≠ g; omega)) (by simpa using h.top)
set_option maxRecDepth 100000 in
set_option maxHeartbeats 3200000 in
theorem implCopySaved_o (w : World) (M : Int) (ax : Option Addr) (nx cx : Nat) (x : List dRow) (h : ListAt shRow (Under w.heap.size) w ax nx x) (hb : (Shape.list shRow).bulk x ≤ 1048576) :
    Calls Try.prog 83 #[.agg #[.int .i64 M, .slice ax nx cx]] w fun e w' => ∃ v, e = .returned (.agg #[.int .i64 M, v]) ∧ ListL ownRow 88 w.heap.size w'.heap.size w' v x ∧ Below w.heap.size w w' := by
  rw [bulk_list shRow h] at hb
  have hbj : ∀ (j : Nat) (y : dRow), x[j]? = some y → shRow.bulk y ≤ 1048576 := fun j y hy => by have := bulk_mem shRow.bulk x j y hy; omega
  have hnx : nx ≤ 1048576 := by omega
  have HBJ := Lib.hid hbj
  clear hb hbj
  have h2 : ((w.alloc (.cells #[.int .i64 M, .slice ax nx cx] 90 (0, 0))).alloc (.cells #[.int .i64 0, .slice none 0 0] 90 (0, 0))).heap.size = w.heap.size + 2 := by simp
  have hb0 : ((w.alloc (.cells #[.int .i64 M, .slice ax nx cx] 90 (0, 0))).alloc (.cells #[.int .i64 0, .slice none 0 0] 90 (0, 0))).heap[w.heap.size]? = some (.cells #[.int .i64 M, .slice ax nx cx] 90 (0, 0)) := by
    rw [Below.heap_alloc _ _ _ (by simp)]
    exact heap_alloc_new w _
  have hb1 : ((w.alloc (.cells #[.int .i64 M, .slice ax nx cx] 90 (0, 0))).alloc (.cells #[.int .i64 0, .slice none 0 0] 90 (0, 0))).heap[w.heap.size + 1]? = some (.cells #[.int .i64 0, .slice none 0 0] 90 (0, 0)) := by
    have := heap_alloc_new (w.alloc (.cells #[.int .i64 M, .slice ax nx cx] 90 (0, 0))) (.cells #[.int .i64 0, .slice none 0 0] 90 (0, 0))
    simpa using this
  have hal : Below w.heap.size w ((w.alloc (.cells #[.int .i64 M, .slice ax nx cx] 90 (0, 0))).alloc (.cells #[.int .i64 0, .slice none 0 0] 90 (0, 0))) := ((Below.refl _ _).alloc (Nat.le_refl _) _).alloc (by simp) _
  have HX := Lib.hid h
  have HB0 := Lib.hid hb0
  have HB1 := Lib.hid hb1
  have HA := Lib.hid hal
  have HS := Lib.hid h2
  clear h hb0 hb1 hal h2
  go_enter Try.func83, Try.ntmps83
  go_upto_region 1 with fail
  generalize (w.alloc (.cells #[.int .i64 M, .slice ax nx cx] 90 (0, 0))).alloc (.cells #[.int .i64 0, .slice none 0 0] 90 (0, 0)) = W0 at HB0 HB1 HA HS ⊢
  have hs := HS.out
  have z0 := box14 HB0.out 0 _ rfl
  have z1 := box14 HB0.out 1 _ rfl
  have HC := Lib.hid fun (wx : World) (hx : Below W0.heap.size W0 wx) => implEachRow_o wx ax nx cx x (((HX.out.below HA.out (Nat.le_refl _)).le (by omega)).below hx (Nat.le_refl _) |>.le hx.size) hnx HBJ.out
  have hd : Below W0.heap.size W0 W0.drew := (Below.refl _ _).drew
  have HD := Lib.hid hd
  clear hd
  go_region_held3 (fun w' => w'.cell? ⟨w.heap.size, 0, none⟩ = some (.int .i64 M) ∧ w'.cell? ⟨w.heap.size, 1, none⟩ = some (.slice ax nx cx))
    (first | go_keep | (go_split_ands; refine ⟨?_, ?_⟩ <;> with_reducible assumption))
    (first
      | (go_simp
         go_at_call 84
         refine (HC.out _ HD.out).mono ?_
         rintro e w2 ⟨v, rfl, hr, hb⟩
         have hb2 : Below W0.heap.size W0 w2 := HD.out.trans hb
         have hk0 := (hb2.block _ (by omega)).trans HB0.out
         have hk1 := (hb2.block _ (by omega)).trans HB1.out
         have s0 : w2.cell? ⟨w.heap.size, 0, none⟩ = some (.int .i64 M) := box14 hk0 0 _ rfl
         have s1 : w2.cell? ⟨w.heap.size, 1, none⟩ = some (.slice ax nx cx) := box14 hk0 1 _ rfl
         have r0 := box14 hk1 0 _ rfl
         have r1 := box14 hk1 1 _ rfl
         have f0 : w2.frozen? ⟨w.heap.size + 1, 0, none⟩ = false := frozen_of_row _ _ _ _ _ hk1
         have f1 : w2.frozen? ⟨w.heap.size + 1, 1, none⟩ = false := frozen_of_row _ _ _ _ _ hk1
         obtain ⟨ar, cr, rfl, -, -⟩ := hr.form
         obtain ⟨nr, hnr⟩ : ∃ nr, x.length = nr := ⟨_, rfl⟩
         rw [hnr] at hr ⊢
         have hs2 := hb2.size
         have HR2 := Lib.hid (show ListL ownRow 88 W0.heap.size w2.heap.size w2 (.slice ar nr cr) x from hr)
         have HB2 := Lib.hid hb2
         have HK1 := Lib.hid hk1
         clear hr hb hb2 hk0 hk1 hnr))
  all_goals
    have e1 := heap_setCell_same _ _ 1 _ _ (.slice ar nr cr) (heap_setCell_same _ _ 0 _ _ (.int .i64 M) HK1.out)
    have hrr := ((HR2.out.setFar (w.heap.size + 1) 0 (.int .i64 M) (by omega)).setFar (w.heap.size + 1) 1 (.slice ar nr cr) (by omega)).wide (lo' := w.heap.size) (hi' := w2.heap.size) HA.out.size (Nat.le_refl _) (by simp)
    have hbb : Below w.heap.size w ((w2.setCell ⟨w.heap.size + 1, 0, none⟩ (.int .i64 M)).setCell ⟨w.heap.size + 1, 1, none⟩ (.slice ar nr cr)) := ((HA.out.trans (HB2.out.mono HA.out.size)).setCell (p := ⟨w.heap.size + 1, 0, none⟩) (Nat.le_add_right _ _) _).setCell (p := ⟨w.heap.size + 1, 1, none⟩) (Nat.le_add_right _ _) _
    have HRR := Lib.hid hrr
    have HBB := Lib.hid hbb
    have HE1 := Lib.hid e1
    clear hrr hbb e1
    go_wp2_with fail
    refine bodyPost_ret (results_cell_row rfl _ _ (w.heap.size + 1) 90 #[.int .i64 M, .slice ar nr cr] (0, 0) _ rfl ?_ Try.underlying90 rfl (by kernel_rfl)) rfl ?_
    · simpa using HE1.out
    exact ⟨.slice ar nr cr, rfl, by simpa using HRR.out, HBB.out⟩
theorem eg_copySaved : ∀ args w, (callFunc 83 args).run Try.prog w = .ok (.enter 83 args) w := enters_of Try.func83 (by kernel_rfl) rfl
set_option maxRecDepth 100000 in
set_option maxHeartbeats 6400000 in
theorem implEachSaved_o (w : World) (a : Option Addr) (n c : Nat) (l : List dSaved) (h : ListAt shSaved (Under w.heap.size) w a n l) (hn : n ≤ 1048576) (hb : ∀ (j : Nat) (x : dSaved), l[j]? = some x → shSaved.bulk x ≤ 1048576) :
    Calls Try.prog 82 #[.slice a n c, .func (.func 83) #[] #[]] w fun e w' => ∃ v, e = .returned v ∧ ListL ownSaved 90 w.heap.size w'.heap.size w' v l ∧ Below w.heap.size w w' := by
  obtain ⟨i0, hi, hz0, hz1, hz2⟩ := info_parts infoAll_Saved
  have HL := Lib.hid h
  have HLEN := Lib.hid h.1
  have HBK := Lib.hid hb
  have eg := eg_copySaved
  clear h hb
  go_enter Try.func82, Try.ntmps82
  go_wp2_with fail
  go_loopw [5, 10] (fun v i wr => ∃ k : Nat, k ≤ n ∧ i = .int .i64 k ∧ ListL ownSaved 90 w.heap.size wr.heap.size wr v (l.take k) ∧ Below w.heap.size w wr) (fun _ i _ => n - (intOf i).toNat)
  case atStart => exact ⟨0, Nat.zero_le _, rfl, ListL.nil _ _ (Nat.le_refl _), Below.refl _ _⟩
  case round =>
    obtain ⟨k, hk, rfl, hl, hb⟩ := hrel
    have hsz := hb.size
    by_cases hlt : k < n
    · obtain ⟨b, o, x, ax, nx, cx, hx, rfl, hbB, hc0, hc1, hn1, hn2, hlx⟩ := saved_at HL.out k hlt
      have hbx := HBK.out k x hx
      rw [shSaved_bulk] at hbx
      obtain ⟨M, hM⟩ : ∃ M, x.1 = M := ⟨_, rfl⟩
      rw [hM] at hc0
      have hxe : x = (M, x.2) := by rw [← hM]
      have d0 := (hb.cell (p := ⟨b, o + k * 2, none⟩) hbB).trans hc0
      have d1 := (hb.cell (p := ⟨b, o + k * 2 + 1, none⟩) hbB).trans hc1
      have htk : l.take (k + 1) = l.take k ++ [x] := by rw [List.take_add_one, hx]; rfl
      obtain ⟨av, cv, rfl, -, -⟩ := hl.form
      have htl : (l.take k).length = k := by rw [List.length_take, HLEN.out]; omega
      rw [htl] at hl ⊢
      have hal := (Below.refl wr.heap.size wr).alloc (Nat.le_refl _) (.cells #[.int .i64 M, .slice ax nx cx] 90 (0, 0))
      have hbk := heap_alloc_new wr (.cells #[.int .i64 M, .slice ax nx cx] 90 (0, 0))
      have hs1 : (wr.alloc (.cells #[.int .i64 M, .slice ax nx cx] 90 (0, 0))).heap.size = wr.heap.size + 1 := by simp
      have hwb := hb.trans (hal.mono hsz)
      have hcp := implCopySaved_o (wr.alloc (.cells #[.int .i64 M, .slice ax nx cx] 90 (0, 0))) M ax nx cx x.2 ((hlx.below hwb (Nat.le_refl _)).le hwb.size) hbx
      have HLK := Lib.hid (hl.below hal (Nat.le_refl _))
      have HTK := Lib.hid htk
      have HTL := Lib.hid htl
      have HXE := Lib.hid hxe
      have HBW := Lib.hid hwb
      have HAL := Lib.hid hal
      have HBN := Lib.hid hbk
      have HS1 := Lib.hid hs1
      have HCP := Lib.hid hcp
      clear hx hlx hc0 hc1 hn1 hn2 hM hxe htk htl hl hb hbx hbB hal hbk hs1 hwb hcp
      go_upto_region 5 with fail
      clear d0 d1
      generalize wr.alloc (.cells #[.int .i64 M, .slice ax nx cx] 90 (0, 0)) = wb at HLK HBW HAL HBN HS1 HCP ⊢
      have y0 := box14 HBN.out 0 _ rfl
      have y1 := box14 HBN.out 1 _ rfl
      go_wp2_with fail
      refine HCP.out.mono ?_
      rintro e w2 ⟨u, rfl, hr, hb2⟩
      obtain ⟨ar, cr, rfl, q1, q2, hol⟩ := hr.list (by decide)
      obtain ⟨nr, hnr⟩ : ∃ nr, x.2.length = nr := ⟨_, rfl⟩
      rw [hnr] at q1 hol ⊢
      have how : ownSaved.owns (FromB wb.heap.size w2.heap.size) w2 [.int .i64 M, .slice ar nr cr] (M, x.2) := ownSaved_owns.2 ⟨ar, nr, cr, rfl, q1, q2, hol⟩
      have HOW := Lib.hid how
      have HL2 := Lib.hid (HLK.out.below hb2 (by have := HS1.out; omega))
      have HB2 := Lib.hid hb2
      clear how hr hb2 y0 y1 hnr hol q1 q2
      go_wp2_with (at_builtin; refine plain_of_step (by rfl) fun K hK => ?_; refine of_step rfl (step_append_one (ops := #[]) w2 (S := ownSaved) (T := 90) (Ts := 28) (by rfl) _ _ (by rfl) i0 (.agg #[.int .i64 0, .slice none 0 0]) 32 Try.underlying28 hi hz0 hz1 hz2 rfl (by decide) (by decide) w.heap.size wr.heap.size hsz _ (l.take k) (M, x.2) [.int .i64 M, .slice ar nr cr] (FromB wb.heap.size w2.heap.size) (by rfl) HL2.out HOW.out (fun b o f => ⟨by have := f.1; have := HS1.out; omega, f.2⟩) saved_one (by rfl) (by rw [HTL.out]; omega) ?_); intro av' nv' cv' w4 hl4 hb4 _ _; have HL4 := Lib.hid hl4; have HB4 := Lib.hid (HBW.out.trans ((HB2.out.mono HBW.out.size).trans hb4)); clear hl4 hb4; refine hK _ _ ?_; clear hK K)
      go_roundw
      case rel =>
        refine ⟨k + 1, by omega, by go_num, ?_, HB4.out⟩
        rw [HTK.out, HXE.out]
        exact HL4.out
      case measure => simp [intOf]; omega
    · obtain rfl : k = n := by omega
      rw [List.take_of_length_le (Nat.le_of_eq HLEN.out)] at hl
      have HLL := Lib.hid hl
      have HBW := Lib.hid hb
      clear hl hb
      go_wp2_with fail
      go_ret
      exact ⟨_, rfl, HLL.out, HBW.out⟩
end Go.Proofs.Ytpnifgpmleaohaa

end

/-! YtpnifgpmleaohaaStgR -/
section

namespace Go.Proofs.Ytpnifgpmleaohaa
open Go.RowKit Go.Sort
set_option linter.unusedVariables false
set_option linter.unusedSimpArgs false

/-- A list that a call owns, in the blocks from lo to hi. -/
def OwnI {α : Type} (S : Owned α) (hS : 0 < S.size) (lo hi : Nat) (wx : World) (v : Value) (xs : List α) : Prop := hi ≤ wx.heap.size ∧ (Owned.list S hS).owns (FromB lo hi) wx [v] xs
theorem OwnI.grew {α : Type} {S : Owned α} {hS : 0 < S.size} {lo0 lo hi : Nat} {wx wy : World} {v : Value} {xs : List α} (h : OwnI S hS lo hi wx v xs) (hg : Grew lo0 wx wy) (hl : lo0 ≤ lo) : OwnI S hS lo hi wy v xs :=
  ⟨Nat.le_trans h.1 hg.1, (Owned.list S hS).owns_keep h.2 fun b o f => by
    have e := hg.2 b (Nat.le_trans hl f.1) (Nat.lt_of_lt_of_le f.2 h.1)
    exact ⟨World.cell?_of_block (a := ⟨b, o, none⟩) e, World.frozen?_of_block (a := ⟨b, o, none⟩) e⟩⟩
theorem OwnI.form {α : Type} {S : Owned α} {hS : 0 < S.size} {lo hi : Nat} {wx : World} {v : Value} {xs : List α} (h : OwnI S hS lo hi wx v xs) : ∃ a n c, v = .slice a n c := by
  obtain ⟨-, a, n, c, e, -⟩ := h
  exact ⟨a, n, c, by simpa using e⟩
theorem OwnI.ofL {α : Type} {S : Owned α} {hS : 0 < S.size} {T : TypeId} {lo hi : Nat} {w : World} {v : Value} {xs : List α} (h : ListL S T lo hi w v xs) : OwnI S hS lo hi w v xs := ⟨h.top, h.own hS⟩
theorem OwnI.ofRow {base : Nat} {w : World} {v : Value} {xs : List Int} (h : Row base w v xs) : OwnI Owned.int (by decide) base w.heap.size w v xs := ⟨Nat.le_refl _, h.own⟩
theorem OwnI.ofTwo {T : TypeId} {base : Nat} {w : World} {v : Value} {xs : List dIns} (h : TwoR T base w v xs) : OwnI ownIns (by decide) base w.heap.size w v xs := ⟨Nat.le_refl _, TwoR.own h⟩
theorem OwnI.at {α : Type} {S : Owned α} {hS : 0 < S.size} {lo hi lo' hi' : Nat} {wx : World} {v : Value} {xs : List α} (h : OwnI S hS lo hi wx v xs) (e : lo = lo') (e' : hi = hi') : OwnI S hS lo' hi' wx v xs := by subst e; subst e'; exact h
theorem ListL.at' {α : Type} {S : Owned α} {T : TypeId} {lo hi lo' hi' : Nat} {wx : World} {v : Value} {xs : List α} (h : ListL S T lo hi wx v xs) (e : lo = lo') (e' : hi = hi') : ListL S T lo' hi' wx v xs := by subst e; subst e'; exact h
/-- The nine lists of a stage that a call has made, one behind the other: list i lies from c i to c (i + 1). -/
structure NineC (c : Nat → Nat) (wx : World) (v1 v2 v5 v6 v7 v8 v9 v10 v11 : Value) (s : dStage) : Prop where
  mono : ∀ j, j < 9 → c j ≤ c (j + 1)
  o1 : OwnI ownIns (by decide) (c 0) (c 1) wx v1 (planS s)
  o2 : OwnI ownOp (by decide) (c 1) (c 2) wx v2 (opsS s)
  o5 : ListL ownSaved 90 (c 2) (c 3) wx v5 (stashS s)
  o6 : OwnI ownRow (by decide) (c 3) (c 4) wx v6 (fullS s)
  o7 : OwnI Owned.int (by decide) (c 4) (c 5) wx v7 (xS s)
  o8 : OwnI Owned.int (by decide) (c 5) (c 6) wx v8 (yS s)
  o9 : OwnI Owned.int (by decide) (c 6) (c 7) wx v9 (gS s)
  o10 : OwnI Owned.int (by decide) (c 7) (c 8) wx v10 (dS s)
  o11 : OwnI ownRow (by decide) (c 8) (c 9) wx v11 (sumS s).1
/-- The nine lists, list i in the blocks of a set. -/
structure NineO (J : Nat → Nat → Prop) (wx : World) (v1 v2 v5 v6 v7 v8 v9 v10 v11 : Value) (s : dStage) : Prop where
  o1 : (Owned.list ownIns (by decide)).owns (fun b _ => J 0 b) wx [v1] (planS s)
  o2 : (Owned.list ownOp (by decide)).owns (fun b _ => J 1 b) wx [v2] (opsS s)
  o5 : (Owned.list ownSaved (by decide)).owns (fun b _ => J 2 b) wx [v5] (stashS s)
  o6 : (Owned.list ownRow (by decide)).owns (fun b _ => J 3 b) wx [v6] (fullS s)
  o7 : (Owned.list Owned.int (by decide)).owns (fun b _ => J 4 b) wx [v7] (xS s)
  o8 : (Owned.list Owned.int (by decide)).owns (fun b _ => J 5 b) wx [v8] (yS s)
  o9 : (Owned.list Owned.int (by decide)).owns (fun b _ => J 6 b) wx [v9] (gS s)
  o10 : (Owned.list Owned.int (by decide)).owns (fun b _ => J 7 b) wx [v10] (dS s)
  o11 : (Owned.list ownRow (by decide)).owns (fun b _ => J 8 b) wx [v11] (sumS s).1
  apart : ∀ i j b, i < j → j < 9 → J i b → J j b → False
theorem NineO.own {J : Nat → Nat → Prop} {wx : World} {v1 v2 v5 v6 v7 v8 v9 v10 v11 : Value} {s : dStage} (h : NineO J wx v1 v2 v5 v6 v7 v8 v9 v10 v11 s) {lo hi : Nat} (hJ : ∀ i b, i < 9 → J i b → lo ≤ b ∧ b < hi) :
    ownStage.owns (FromB lo hi) wx (stageC (pcS s) v1 v2 (lastS s) (redoS s) v5 v6 v7 v8 v9 v10 v11 (sumS s).2.1 (sumS s).2.2).toList s := by
  obtain ⟨a1, n1, c1, e1, p1, q1, l1⟩ := h.o1
  obtain ⟨a2, n2, c2, e2, p2, q2, l2⟩ := h.o2
  obtain ⟨a5, n5, c5, e5, p5, q5, l5⟩ := h.o5
  obtain ⟨a6, n6, c6, e6, p6, q6, l6⟩ := h.o6
  obtain ⟨a7, n7, c7, e7, p7, q7, l7⟩ := h.o7
  obtain ⟨a8, n8, c8, e8, p8, q8, l8⟩ := h.o8
  obtain ⟨a9, n9, c9, e9, p9, q9, l9⟩ := h.o9
  obtain ⟨a10, n10, c10, e10, p10, q10, l10⟩ := h.o10
  obtain ⟨a11, n11, c11, e11, p11, q11, l11⟩ := h.o11
  cases e1; cases e2; cases e5; cases e6; cases e7; cases e8; cases e9; cases e10; cases e11
  refine ownStage_owns.2 ⟨a1, n1, c1, a2, n2, c2, a5, n5, c5, a6, n6, c6, a7, n7, c7, a8, n8, c8, a9, n9, c9, a10, n10, c10, a11, n11, c11, fun b _ => J 0 b, fun b _ => J 1 b, fun b _ => J 2 b, fun b _ => J 3 b, fun b _ => J 4 b, fun b _ => J 5 b, fun b _ => J 6 b, fun b _ => J 7 b, fun b _ => J 8 b, rfl,
    ⟨p1, q1, l1⟩, ⟨p2, q2, l2⟩, ⟨p5, q5, l5⟩, ⟨p6, q6, l6⟩, ⟨p7, q7, l7⟩, ⟨p8, q8, l8⟩, ⟨p9, q9, l9⟩, ⟨p10, q10, l10⟩, ⟨p11, q11, l11⟩,
    fun b o f => hJ 0 b (by omega) f, fun b o f => hJ 1 b (by omega) f, fun b o f => hJ 2 b (by omega) f, fun b o f => hJ 3 b (by omega) f, fun b o f => hJ 4 b (by omega) f, fun b o f => hJ 5 b (by omega) f, fun b o f => hJ 6 b (by omega) f, fun b o f => hJ 7 b (by omega) f, fun b o f => hJ 8 b (by omega) f,
    fun b o f g => h.apart 0 1 b (by omega) (by omega) f g, fun b o f g => h.apart 0 2 b (by omega) (by omega) f g, fun b o f g => h.apart 0 3 b (by omega) (by omega) f g, fun b o f g => h.apart 0 4 b (by omega) (by omega) f g, fun b o f g => h.apart 0 5 b (by omega) (by omega) f g, fun b o f g => h.apart 0 6 b (by omega) (by omega) f g, fun b o f g => h.apart 0 7 b (by omega) (by omega) f g, fun b o f g => h.apart 0 8 b (by omega) (by omega) f g, fun b o f g => h.apart 1 2 b (by omega) (by omega) f g, fun b o f g => h.apart 1 3 b (by omega) (by omega) f g, fun b o f g => h.apart 1 4 b (by omega) (by omega) f g, fun b o f g => h.apart 1 5 b (by omega) (by omega) f g, fun b o f g => h.apart 1 6 b (by omega) (by omega) f g, fun b o f g => h.apart 1 7 b (by omega) (by omega) f g, fun b o f g => h.apart 1 8 b (by omega) (by omega) f g, fun b o f g => h.apart 2 3 b (by omega) (by omega) f g, fun b o f g => h.apart 2 4 b (by omega) (by omega) f g, fun b o f g => h.apart 2 5 b (by omega) (by omega) f g, fun b o f g => h.apart 2 6 b (by omega) (by omega) f g, fun b o f g => h.apart 2 7 b (by omega) (by omega) f g, fun b o f g => h.apart 2 8 b (by omega) (by omega) f g, fun b o f g => h.apart 3 4 b (by omega) (by omega) f g, fun b o f g => h.apart 3 5 b (by omega) (by omega) f g, fun b o f g => h.apart 3 6 b (by omega) (by omega) f g, fun b o f g => h.apart 3 7 b (by omega) (by omega) f g, fun b o f g => h.apart 3 8 b (by omega) (by omega) f g, fun b o f g => h.apart 4 5 b (by omega) (by omega) f g, fun b o f g => h.apart 4 6 b (by omega) (by omega) f g, fun b o f g => h.apart 4 7 b (by omega) (by omega) f g, fun b o f g => h.apart 4 8 b (by omega) (by omega) f g, fun b o f g => h.apart 5 6 b (by omega) (by omega) f g, fun b o f g => h.apart 5 7 b (by omega) (by omega) f g, fun b o f g => h.apart 5 8 b (by omega) (by omega) f g, fun b o f g => h.apart 6 7 b (by omega) (by omega) f g, fun b o f g => h.apart 6 8 b (by omega) (by omega) f g, fun b o f g => h.apart 7 8 b (by omega) (by omega) f g⟩
theorem NineC.toO {c : Nat → Nat} {wx : World} {v1 v2 v5 v6 v7 v8 v9 v10 v11 : Value} {s : dStage} (h : NineC c wx v1 v2 v5 v6 v7 v8 v9 v10 v11 s) : NineO (fun i b => c i ≤ b ∧ b < c (i + 1)) wx v1 v2 v5 v6 v7 v8 v9 v10 v11 s :=
  ⟨h.o1.2, h.o2.2, h.o5.own (by decide), h.o6.2, h.o7.2, h.o8.2, h.o9.2, h.o10.2, h.o11.2, fun i j b hi hj f g => by
    have := lo_mono (k := 9) h.mono (i + 1) j (by omega) (by omega)
    have h1 := f.2
    have h2 := g.1
    omega⟩
theorem NineC.own {c : Nat → Nat} {wx : World} {v1 v2 v5 v6 v7 v8 v9 v10 v11 : Value} {s : dStage} (h : NineC c wx v1 v2 v5 v6 v7 v8 v9 v10 v11 s) {lo hi : Nat} (hl : lo ≤ c 0) (hh : c 9 ≤ hi) :
    ownStage.owns (FromB lo hi) wx (stageC (pcS s) v1 v2 (lastS s) (redoS s) v5 v6 v7 v8 v9 v10 v11 (sumS s).2.1 (sumS s).2.2).toList s :=
  h.toO.own fun i b hi f => by
    have h1 := lo_mono (k := 9) h.mono 0 i (by omega) (by omega)
    have h2 := lo_mono (k := 9) h.mono (i + 1) 9 (by omega) (by omega)
    have h3 := f.1
    have h4 := f.2
    omega
theorem clonei_some (ad : Addr) (n c : Nat) (w : World) : (binOp .eql 26 (.slice (some ad) n c) (.slice none 0 0)).run Try.prog w = .ok (.bool false) w := by kernel_rfl
theorem clonei_none (n c : Nat) (w : World) : (binOp .eql 26 (.slice none n c) (.slice none 0 0)).run Try.prog w = .ok (.bool true) w := by kernel_rfl
set_option maxRecDepth 100000 in
/-- A copy of instructions, of a nil row too. -/
theorem implCloneIns_o (w : World) (a : Option Addr) (n c : Nat) (ds : List dIns) (h : TwoIn w.heap.size w a n ds) :
    Calls Try.prog 79 #[.slice a n c] w fun e w' => ∃ v, e = .returned v ∧ TwoR 72 w.heap.size w' v ds ∧ Below w.heap.size w w' := by
  obtain ⟨i0, hi, hz0, hz1, hz2⟩ := info_parts infoIns
  cases a with
  | none =>
    obtain ⟨rfl, rfl⟩ := h.nil
    have hnn := clonei_none 0 c
    clear h
    go_enter Try.func79, Try.ntmps79
    go_wp2_with fail
    go_ret
    exact ⟨_, rfl, TwoR.nil _ _, Below.refl _ _⟩
  | some ad =>
    have hnn := clonei_some ad n c
    have hal := (Below.refl w.heap.size w).alloc (Nat.le_refl _) (.cells #[] 72 (0, 0))
    have hin := (h.below hal (Nat.le_refl _)).le hal.size
    have hem := TwoR.empty (T := 72) (base := w.heap.size) w (Nat.le_refl _)
    have HIN := Lib.hid hin
    have HEM := Lib.hid hem
    have HA := Lib.hid hal
    clear h hin hem hal
    go_enter Try.func79, Try.ntmps79
    go_wp2_with (at_builtin; refine plain_of_step (by rfl) fun K hK => ?_; refine of_step rfl (step_append_two (ops := #[]) (T := 72) (Ts := 26) (w.alloc (.cells #[] 72 (0, 0))) rfl _ _ (by rfl) i0 (.agg #[.int .i64 0, .int .i64 0]) Try.underlying26 hi hz0 hz1 hz2 rfl w.heap.size _ [] (by rfl) HEM.out (some ad) n c _ ds (by rfl) HIN.out (by simp) HA.out.size ?_); intro ar nr cr w2 hr hg; rw [List.nil_append] at hr; have HB := Lib.hid (HA.out.grown hg HA.out.size fun q hq => by cases hq; exact Nat.le_refl _); have HR := Lib.hid hr; clear hr hg; refine hK _ _ ?_; clear hK K)
    go_ret
    exact ⟨_, rfl, HR.out, HB.out⟩
set_option maxRecDepth 100000 in
set_option maxHeartbeats 25600000 in
theorem implCopy_o (w : World) (es : List Value) (s : dStage) (h : shStage.reads (Under w.heap.size) w es s) (hsm : smallStage s) (hlen : (stashS s).length ≤ 1048576) :
    Calls Try.prog 38 #[.agg es.toArray] w fun e w' => ∃ v1 v2 v5 v6 v7 v8 v9 v10 v11 c, e = .returned (.agg (stageC (pcS s) v1 v2 (lastS s) (redoS s) v5 v6 v7 v8 v9 v10 v11 (sumS s).2.1 (sumS s).2.2)) ∧ Below w.heap.size w w' ∧ w.heap.size ≤ c 0 ∧ c 9 ≤ w'.heap.size ∧ NineC c w' v1 v2 v5 v6 v7 v8 v9 v10 v11 s := by
  obtain ⟨b1, b2, b5, b6, b7, b8, b9, b10, b11⟩ := hsm
  obtain ⟨a1, n1, c1, a2, n2, c2, a5, n5, c5, a6, n6, c6, a7, n7, c7, a8, n8, c8, a9, n9, c9, a10, n10, c10, a11, n11, c11, rfl, ⟨p1, q1, l1⟩, ⟨p2, q2, l2⟩, ⟨p5, q5, l5⟩, ⟨p6, q6, l6⟩, ⟨p7, q7, l7⟩, ⟨p8, q8, l8⟩, ⟨p9, q9, l9⟩, ⟨p10, q10, l10⟩, ⟨p11, q11, l11⟩⟩ := shStage_reads.1 h
  obtain ⟨pc, plan, ops, last, redo, stash, full, xs, ys, gs, ds, rows, loss, sat⟩ := s
  replace b1 : (Shape.list shIns).bulk plan ≤ 1048576 := b1
  replace b2 : (Shape.list shOp).bulk ops ≤ 1048576 := b2
  replace b5 : looseSavedS stash := b5
  replace b6 : (Shape.list shRow).bulk full ≤ 1048576 := b6
  replace b11 : (Shape.list shRow).bulk rows ≤ 1048576 := b11
  replace l1 : ListAt shIns (Under w.heap.size) w a1 n1 plan := l1
  replace l2 : ListAt shOp (Under w.heap.size) w a2 n2 ops := l2
  replace l5 : ListAt shSaved (Under w.heap.size) w a5 n5 stash := l5
  replace l6 : ListAt shRow (Under w.heap.size) w a6 n6 full := l6
  replace l11 : ListAt shRow (Under w.heap.size) w a11 n11 rows := l11
  replace hlen : stash.length ≤ 1048576 := hlen
  replace l7 : ListAt Shape.int (Under w.heap.size) w a7 n7 xs := l7
  replace b7 : xs.length ≤ 1048576 := by rw [← bulk_ints]; exact b7
  have C7 := Lib.hid fun (wx : World) (hx : Below w.heap.size w wx) => implCloneAll_o wx a7 n7 c7 xs (((l7.ints (by have := l7.1; omega)).below hx (Nat.le_refl _)).le hx.size)
  replace l8 : ListAt Shape.int (Under w.heap.size) w a8 n8 ys := l8
  replace b8 : ys.length ≤ 1048576 := by rw [← bulk_ints]; exact b8
  have C8 := Lib.hid fun (wx : World) (hx : Below w.heap.size w wx) => implCloneAll_o wx a8 n8 c8 ys (((l8.ints (by have := l8.1; omega)).below hx (Nat.le_refl _)).le hx.size)
  replace l9 : ListAt Shape.int (Under w.heap.size) w a9 n9 gs := l9
  replace b9 : gs.length ≤ 1048576 := by rw [← bulk_ints]; exact b9
  have C9 := Lib.hid fun (wx : World) (hx : Below w.heap.size w wx) => implCloneAll_o wx a9 n9 c9 gs (((l9.ints (by have := l9.1; omega)).below hx (Nat.le_refl _)).le hx.size)
  replace l10 : ListAt Shape.int (Under w.heap.size) w a10 n10 ds := l10
  replace b10 : ds.length ≤ 1048576 := by rw [← bulk_ints]; exact b10
  have C10 := Lib.hid fun (wx : World) (hx : Below w.heap.size w wx) => implCloneAll_o wx a10 n10 c10 ds (((l10.ints (by have := l10.1; omega)).below hx (Nat.le_refl _)).le hx.size)
  have hti := l1.twoIn (Nat.le_refl _) b1
  rw [bulk_list shOp l2] at b2
  rw [bulk_list shRow l6] at b6
  rw [bulk_list shRow l11] at b11
  have C1 := Lib.hid fun (wx : World) (hx : Below w.heap.size w wx) => implCloneIns_o wx a1 n1 c1 plan ((hti.below hx (Nat.le_refl _)).le hx.size)
  have C2 := Lib.hid fun (wx : World) (hx : Below w.heap.size w wx) => implEachOp_o wx a2 n2 c2 ops ((l2.below hx (Nat.le_refl _)).le hx.size) (by omega) (fun j x hj => by have := bulk_mem shOp.bulk ops j x hj; omega)
  have C5 := Lib.hid fun (wx : World) (hx : Below w.heap.size w wx) => implEachSaved_o wx a5 n5 c5 stash ((l5.below hx (Nat.le_refl _)).le hx.size) (by rw [← l5.1]; exact hlen) (fun j x hj => b5.2 x (List.mem_of_getElem? hj))
  have C6 := Lib.hid fun (wx : World) (hx : Below w.heap.size w wx) => implEachRow_o wx a6 n6 c6 full ((l6.below hx (Nat.le_refl _)).le hx.size) (by omega) (fun j x hj => by have := bulk_mem shRow.bulk full j x hj; omega)
  have C11 := Lib.hid fun (wx : World) (hx : Below w.heap.size w wx) => implEachRow_o wx a11 n11 c11 rows ((l11.below hx (Nat.le_refl _)).le hx.size) (by omega) (fun j x hj => by have := bulk_mem shRow.bulk rows j x hj; omega)
  clear h l1 l2 l5 l6 l7 l8 l9 l10 l11 b1 b2 b5 b6 b7 b8 b9 b10 b11 hti hlen
  have h2 : ((w.alloc (.cells #[.int .i64 pc, .slice a1 n1 c1, .slice a2 n2 c2, .bool last, .bool redo, .slice a5 n5 c5, .slice a6 n6 c6, .slice a7 n7 c7, .slice a8 n8 c8, .slice a9 n9 c9, .slice a10 n10 c10, .slice a11 n11 c11, .int .i64 loss, .bool sat] 34 (0, 0))).alloc (.cells zeroC 34 (0, 0))).heap.size = w.heap.size + 2 := by simp
  have hb0 : ((w.alloc (.cells #[.int .i64 pc, .slice a1 n1 c1, .slice a2 n2 c2, .bool last, .bool redo, .slice a5 n5 c5, .slice a6 n6 c6, .slice a7 n7 c7, .slice a8 n8 c8, .slice a9 n9 c9, .slice a10 n10 c10, .slice a11 n11 c11, .int .i64 loss, .bool sat] 34 (0, 0))).alloc (.cells zeroC 34 (0, 0))).heap[w.heap.size]? = some (.cells #[.int .i64 pc, .slice a1 n1 c1, .slice a2 n2 c2, .bool last, .bool redo, .slice a5 n5 c5, .slice a6 n6 c6, .slice a7 n7 c7, .slice a8 n8 c8, .slice a9 n9 c9, .slice a10 n10 c10, .slice a11 n11 c11, .int .i64 loss, .bool sat] 34 (0, 0)) := by
    rw [Below.heap_alloc _ _ _ (by simp)]
    exact heap_alloc_new w _
  have hb1 : ((w.alloc (.cells #[.int .i64 pc, .slice a1 n1 c1, .slice a2 n2 c2, .bool last, .bool redo, .slice a5 n5 c5, .slice a6 n6 c6, .slice a7 n7 c7, .slice a8 n8 c8, .slice a9 n9 c9, .slice a10 n10 c10, .slice a11 n11 c11, .int .i64 loss, .bool sat] 34 (0, 0))).alloc (.cells zeroC 34 (0, 0))).heap[w.heap.size + 1]? = some (.cells zeroC 34 (0, 0)) := by
    have := heap_alloc_new (w.alloc (.cells #[.int .i64 pc, .slice a1 n1 c1, .slice a2 n2 c2, .bool last, .bool redo, .slice a5 n5 c5, .slice a6 n6 c6, .slice a7 n7 c7, .slice a8 n8 c8, .slice a9 n9 c9, .slice a10 n10 c10, .slice a11 n11 c11, .int .i64 loss, .bool sat] 34 (0, 0))) (.cells zeroC 34 (0, 0))
    rwa [World.size_alloc] at this
  have hal : Below w.heap.size w ((w.alloc (.cells #[.int .i64 pc, .slice a1 n1 c1, .slice a2 n2 c2, .bool last, .bool redo, .slice a5 n5 c5, .slice a6 n6 c6, .slice a7 n7 c7, .slice a8 n8 c8, .slice a9 n9 c9, .slice a10 n10 c10, .slice a11 n11 c11, .int .i64 loss, .bool sat] 34 (0, 0))).alloc (.cells zeroC 34 (0, 0))) := ((Below.refl _ _).alloc (Nat.le_refl _) _).alloc (by simp) _
  have HB := Lib.hid hb0
  have HZ := Lib.hid hb1
  have HW := Lib.hid hal
  have HS := Lib.hid h2
  clear hb0 hb1 hal h2
  go_enter Try.func38, Try.ntmps38
  go_upto_region 1 with fail
  generalize (w.alloc (.cells #[.int .i64 pc, .slice a1 n1 c1, .slice a2 n2 c2, .bool last, .bool redo, .slice a5 n5 c5, .slice a6 n6 c6, .slice a7 n7 c7, .slice a8 n8 c8, .slice a9 n9 c9, .slice a10 n10 c10, .slice a11 n11 c11, .int .i64 loss, .bool sat] 34 (0, 0))).alloc (.cells zeroC 34 (0, 0)) = W0 at HB HZ HW HS ⊢
  have hWS : w.heap.size + 2 ≤ W0.heap.size := by have := HS.out; omega
  have HWS := Lib.hid hWS
  clear hWS
  have z := box14 HB.out 1 _ rfl
  go_wp2_with fail
  refine (C1.out W0 HW.out).mono ?_
  rintro e w1 ⟨v1, rfl, hl, hb⟩
  have ho := OwnI.ofTwo hl
  obtain ⟨a1', n1', c1', rfl⟩ := ho.form
  have O1 := Lib.hid ho
  clear ho hl
  clear z
  have hW := HWS.out
  have HB' := Lib.hid ((hb.block w.heap.size (by omega)).trans HB.out)
  have HZ' := Lib.hid ((hb.block (w.heap.size + 1) (by omega)).trans HZ.out)
  have HW' := Lib.hid (HW.out.trans (hb.mono HW.out.size))
  have HWS' := Lib.hid (Nat.le_trans hW hb.size)
  clear HB HZ HW HWS 
  have HB := HB'
  have HZ := HZ'
  have HW := HW'
  have HWS := HWS'
  clear HB' HZ' HW' HWS' 
  have L1 : Hid (w.heap.size + 2 ≤ W0.heap.size) := Lib.hid hW
  have M1 : Hid (W0.heap.size ≤ w1.heap.size) := Lib.hid hb.size
  clear hb hW
  have cc := box14 HB.out 1 _ rfl
  have ff : w1.frozen? ⟨w.heap.size, 1, none⟩ = false := frozen_of_row _ _ _ _ _ HB.out
  have hB' : (w1.setCell ⟨w.heap.size, 1, none⟩ (.slice a1' n1' c1')).heap[w.heap.size]? = some (.cells #[.int .i64 pc, .slice a1' n1' c1', .slice a2 n2 c2, .bool last, .bool redo, .slice a5 n5 c5, .slice a6 n6 c6, .slice a7 n7 c7, .slice a8 n8 c8, .slice a9 n9 c9, .slice a10 n10 c10, .slice a11 n11 c11, .int .i64 loss, .bool sat] 34 (0, 0)) := by
    have := heap_setCell_same w1 w.heap.size 1 _ _ (.slice a1' n1' c1') HB.out
    simpa only [List.setIfInBounds_toArray, List.set_cons_zero, List.set_cons_succ] using this
  have hZ' : (w1.setCell ⟨w.heap.size, 1, none⟩ (.slice a1' n1' c1')).heap[w.heap.size + 1]? = some (.cells zeroC 34 (0, 0)) := (Below.heap_setCell _ _ _ _ (by show w.heap.size + 1 ≠ w.heap.size; omega)).trans HZ.out
  have hW' := HW.out.setCell (p := ⟨w.heap.size, 1, none⟩) (Nat.le_refl _) (.slice a1' n1' c1')
  have hS' : (w1.setCell ⟨w.heap.size, 1, none⟩ (.slice a1' n1' c1')).heap.size = w1.heap.size := by simp
  have SB := Lib.hid hB'
  have SZ := Lib.hid hZ'
  have SW := Lib.hid hW'
  have SS := Lib.hid hS'
  have SO1 := Lib.hid (O1.out.grew (Grew.stored (lo := w.heap.size + 2) (g := w.heap.size) (by omega) w1 1 (.slice a1' n1' c1')) L1.out)
  clear hB' hZ' hW' hS'
  go_upto_region 2 with fail
  clear cc ff
  generalize w1.setCell ⟨w.heap.size, 1, none⟩ (.slice a1' n1' c1') = W1 at SB SZ SW SS SO1 ⊢
  have SWS : Hid (w.heap.size + 2 ≤ W1.heap.size) := Lib.hid (by have := SS.out; have := HWS.out; omega)
  clear HB HZ HW HWS O1
  have HB := SB
  have HZ := SZ
  have HW := SW
  have HWS := SWS
  have O1 := SO1
  have T1 : Hid (W1.heap.size = w1.heap.size) := SS
  clear SB SZ SW SS SWS SO1
  have z := box14 HB.out 2 _ rfl
  go_wp2_with fail
  refine (C2.out W1 HW.out).mono ?_
  rintro e w2 ⟨v2, rfl, hl, hb⟩
  have ho : OwnI ownOp (by decide) _ _ _ _ _ := OwnI.ofL hl
  obtain ⟨a2', n2', c2', rfl⟩ := ho.form
  have O2 := Lib.hid ho
  clear ho hl
  clear z
  have hW := HWS.out
  have HB' := Lib.hid ((hb.block w.heap.size (by omega)).trans HB.out)
  have HZ' := Lib.hid ((hb.block (w.heap.size + 1) (by omega)).trans HZ.out)
  have HW' := Lib.hid (HW.out.trans (hb.mono HW.out.size))
  have HWS' := Lib.hid (Nat.le_trans hW hb.size)
  have O1' := Lib.hid (O1.out.grew (Grew.called (lo := w.heap.size + 2) hb) (by first | exact L1.out | omega))
  clear HB HZ HW HWS O1
  have HB := HB'
  have HZ := HZ'
  have HW := HW'
  have HWS := HWS'
  have O1 := O1'
  clear HB' HZ' HW' HWS' O1'
  have L2 : Hid (w.heap.size + 2 ≤ W1.heap.size) := Lib.hid hW
  have M2 : Hid (W1.heap.size ≤ w2.heap.size) := Lib.hid hb.size
  clear hb hW
  have cc := box14 HB.out 2 _ rfl
  have ff : w2.frozen? ⟨w.heap.size, 2, none⟩ = false := frozen_of_row _ _ _ _ _ HB.out
  have hB' : (w2.setCell ⟨w.heap.size, 2, none⟩ (.slice a2' n2' c2')).heap[w.heap.size]? = some (.cells #[.int .i64 pc, .slice a1' n1' c1', .slice a2' n2' c2', .bool last, .bool redo, .slice a5 n5 c5, .slice a6 n6 c6, .slice a7 n7 c7, .slice a8 n8 c8, .slice a9 n9 c9, .slice a10 n10 c10, .slice a11 n11 c11, .int .i64 loss, .bool sat] 34 (0, 0)) := by
    have := heap_setCell_same w2 w.heap.size 2 _ _ (.slice a2' n2' c2') HB.out
    simpa only [List.setIfInBounds_toArray, List.set_cons_zero, List.set_cons_succ] using this
  have hZ' : (w2.setCell ⟨w.heap.size, 2, none⟩ (.slice a2' n2' c2')).heap[w.heap.size + 1]? = some (.cells zeroC 34 (0, 0)) := (Below.heap_setCell _ _ _ _ (by show w.heap.size + 1 ≠ w.heap.size; omega)).trans HZ.out
  have hW' := HW.out.setCell (p := ⟨w.heap.size, 2, none⟩) (Nat.le_refl _) (.slice a2' n2' c2')
  have hS' : (w2.setCell ⟨w.heap.size, 2, none⟩ (.slice a2' n2' c2')).heap.size = w2.heap.size := by simp
  have SB := Lib.hid hB'
  have SZ := Lib.hid hZ'
  have SW := Lib.hid hW'
  have SS := Lib.hid hS'
  have SO1 := Lib.hid (O1.out.grew (Grew.stored (lo := w.heap.size + 2) (g := w.heap.size) (by omega) w2 2 (.slice a2' n2' c2')) L1.out)
  have SO2 := Lib.hid (O2.out.grew (Grew.stored (lo := w.heap.size + 2) (g := w.heap.size) (by omega) w2 2 (.slice a2' n2' c2')) L2.out)
  clear hB' hZ' hW' hS'
  go_upto_region 3 with fail
  clear cc ff
  generalize w2.setCell ⟨w.heap.size, 2, none⟩ (.slice a2' n2' c2') = W2 at SB SZ SW SS SO1 SO2 ⊢
  have SWS : Hid (w.heap.size + 2 ≤ W2.heap.size) := Lib.hid (by have := SS.out; have := HWS.out; omega)
  clear HB HZ HW HWS O1 O2
  have HB := SB
  have HZ := SZ
  have HW := SW
  have HWS := SWS
  have O1 := SO1
  have O2 := SO2
  have T2 : Hid (W2.heap.size = w2.heap.size) := SS
  clear SB SZ SW SS SWS SO1 SO2
  have z := box14 HB.out 5 _ rfl
  go_wp2_with fail
  refine (C5.out W2 HW.out).mono ?_
  rintro e w3 ⟨v5, rfl, hl, hb⟩
  have ho := hl
  obtain ⟨a5', c5', e5, -, -⟩ := hl.form
  obtain ⟨n5', hn5⟩ : ∃ q, stash.length = q := ⟨_, rfl⟩
  rw [hn5] at e5
  subst e5
  clear hn5
  have O5 := Lib.hid ho
  clear ho hl
  clear z
  have hW := HWS.out
  have HB' := Lib.hid ((hb.block w.heap.size (by omega)).trans HB.out)
  have HZ' := Lib.hid ((hb.block (w.heap.size + 1) (by omega)).trans HZ.out)
  have HW' := Lib.hid (HW.out.trans (hb.mono HW.out.size))
  have HWS' := Lib.hid (Nat.le_trans hW hb.size)
  have O1' := Lib.hid (O1.out.grew (Grew.called (lo := w.heap.size + 2) hb) (by first | exact L1.out | omega))
  have O2' := Lib.hid (O2.out.grew (Grew.called (lo := w.heap.size + 2) hb) (by first | exact L2.out | omega))
  clear HB HZ HW HWS O1 O2
  have HB := HB'
  have HZ := HZ'
  have HW := HW'
  have HWS := HWS'
  have O1 := O1'
  have O2 := O2'
  clear HB' HZ' HW' HWS' O1' O2'
  have L5 : Hid (w.heap.size + 2 ≤ W2.heap.size) := Lib.hid hW
  have M5 : Hid (W2.heap.size ≤ w3.heap.size) := Lib.hid hb.size
  clear hb hW
  have cc := box14 HB.out 5 _ rfl
  have ff : w3.frozen? ⟨w.heap.size, 5, none⟩ = false := frozen_of_row _ _ _ _ _ HB.out
  have hB' : (w3.setCell ⟨w.heap.size, 5, none⟩ (.slice a5' n5' c5')).heap[w.heap.size]? = some (.cells #[.int .i64 pc, .slice a1' n1' c1', .slice a2' n2' c2', .bool last, .bool redo, .slice a5' n5' c5', .slice a6 n6 c6, .slice a7 n7 c7, .slice a8 n8 c8, .slice a9 n9 c9, .slice a10 n10 c10, .slice a11 n11 c11, .int .i64 loss, .bool sat] 34 (0, 0)) := by
    have := heap_setCell_same w3 w.heap.size 5 _ _ (.slice a5' n5' c5') HB.out
    simpa only [List.setIfInBounds_toArray, List.set_cons_zero, List.set_cons_succ] using this
  have hZ' : (w3.setCell ⟨w.heap.size, 5, none⟩ (.slice a5' n5' c5')).heap[w.heap.size + 1]? = some (.cells zeroC 34 (0, 0)) := (Below.heap_setCell _ _ _ _ (by show w.heap.size + 1 ≠ w.heap.size; omega)).trans HZ.out
  have hW' := HW.out.setCell (p := ⟨w.heap.size, 5, none⟩) (Nat.le_refl _) (.slice a5' n5' c5')
  have hS' : (w3.setCell ⟨w.heap.size, 5, none⟩ (.slice a5' n5' c5')).heap.size = w3.heap.size := by simp
  have SB := Lib.hid hB'
  have SZ := Lib.hid hZ'
  have SW := Lib.hid hW'
  have SS := Lib.hid hS'
  have SO1 := Lib.hid (O1.out.grew (Grew.stored (lo := w.heap.size + 2) (g := w.heap.size) (by omega) w3 5 (.slice a5' n5' c5')) L1.out)
  have SO2 := Lib.hid (O2.out.grew (Grew.stored (lo := w.heap.size + 2) (g := w.heap.size) (by omega) w3 5 (.slice a5' n5' c5')) L2.out)
  have SO5 := Lib.hid (O5.out.grew (Grew.stored (lo := w.heap.size + 2) (g := w.heap.size) (by omega) w3 5 (.slice a5' n5' c5')) L5.out)
  clear hB' hZ' hW' hS'
  go_upto_region 4 with fail
  clear cc ff
  generalize w3.setCell ⟨w.heap.size, 5, none⟩ (.slice a5' n5' c5') = W3 at SB SZ SW SS SO1 SO2 SO5 ⊢
  have SWS : Hid (w.heap.size + 2 ≤ W3.heap.size) := Lib.hid (by have := SS.out; have := HWS.out; omega)
  clear HB HZ HW HWS O1 O2 O5
  have HB := SB
  have HZ := SZ
  have HW := SW
  have HWS := SWS
  have O1 := SO1
  have O2 := SO2
  have O5 := SO5
  have T5 : Hid (W3.heap.size = w3.heap.size) := SS
  clear SB SZ SW SS SWS SO1 SO2 SO5
  have z := box14 HB.out 6 _ rfl
  go_wp2_with fail
  refine (C6.out W3 HW.out).mono ?_
  rintro e w4 ⟨v6, rfl, hl, hb⟩
  have ho : OwnI ownRow (by decide) _ _ _ _ _ := OwnI.ofL hl
  obtain ⟨a6', n6', c6', rfl⟩ := ho.form
  have O6 := Lib.hid ho
  clear ho hl
  clear z
  have hW := HWS.out
  have HB' := Lib.hid ((hb.block w.heap.size (by omega)).trans HB.out)
  have HZ' := Lib.hid ((hb.block (w.heap.size + 1) (by omega)).trans HZ.out)
  have HW' := Lib.hid (HW.out.trans (hb.mono HW.out.size))
  have HWS' := Lib.hid (Nat.le_trans hW hb.size)
  have O1' := Lib.hid (O1.out.grew (Grew.called (lo := w.heap.size + 2) hb) (by first | exact L1.out | omega))
  have O2' := Lib.hid (O2.out.grew (Grew.called (lo := w.heap.size + 2) hb) (by first | exact L2.out | omega))
  have O5' := Lib.hid (O5.out.grew (Grew.called (lo := w.heap.size + 2) hb) (by first | exact L5.out | omega))
  clear HB HZ HW HWS O1 O2 O5
  have HB := HB'
  have HZ := HZ'
  have HW := HW'
  have HWS := HWS'
  have O1 := O1'
  have O2 := O2'
  have O5 := O5'
  clear HB' HZ' HW' HWS' O1' O2' O5'
  have L6 : Hid (w.heap.size + 2 ≤ W3.heap.size) := Lib.hid hW
  have M6 : Hid (W3.heap.size ≤ w4.heap.size) := Lib.hid hb.size
  clear hb hW
  have cc := box14 HB.out 6 _ rfl
  have ff : w4.frozen? ⟨w.heap.size, 6, none⟩ = false := frozen_of_row _ _ _ _ _ HB.out
  have hB' : (w4.setCell ⟨w.heap.size, 6, none⟩ (.slice a6' n6' c6')).heap[w.heap.size]? = some (.cells #[.int .i64 pc, .slice a1' n1' c1', .slice a2' n2' c2', .bool last, .bool redo, .slice a5' n5' c5', .slice a6' n6' c6', .slice a7 n7 c7, .slice a8 n8 c8, .slice a9 n9 c9, .slice a10 n10 c10, .slice a11 n11 c11, .int .i64 loss, .bool sat] 34 (0, 0)) := by
    have := heap_setCell_same w4 w.heap.size 6 _ _ (.slice a6' n6' c6') HB.out
    simpa only [List.setIfInBounds_toArray, List.set_cons_zero, List.set_cons_succ] using this
  have hZ' : (w4.setCell ⟨w.heap.size, 6, none⟩ (.slice a6' n6' c6')).heap[w.heap.size + 1]? = some (.cells zeroC 34 (0, 0)) := (Below.heap_setCell _ _ _ _ (by show w.heap.size + 1 ≠ w.heap.size; omega)).trans HZ.out
  have hW' := HW.out.setCell (p := ⟨w.heap.size, 6, none⟩) (Nat.le_refl _) (.slice a6' n6' c6')
  have hS' : (w4.setCell ⟨w.heap.size, 6, none⟩ (.slice a6' n6' c6')).heap.size = w4.heap.size := by simp
  have SB := Lib.hid hB'
  have SZ := Lib.hid hZ'
  have SW := Lib.hid hW'
  have SS := Lib.hid hS'
  have SO1 := Lib.hid (O1.out.grew (Grew.stored (lo := w.heap.size + 2) (g := w.heap.size) (by omega) w4 6 (.slice a6' n6' c6')) L1.out)
  have SO2 := Lib.hid (O2.out.grew (Grew.stored (lo := w.heap.size + 2) (g := w.heap.size) (by omega) w4 6 (.slice a6' n6' c6')) L2.out)
  have SO5 := Lib.hid (O5.out.grew (Grew.stored (lo := w.heap.size + 2) (g := w.heap.size) (by omega) w4 6 (.slice a6' n6' c6')) L5.out)
  have SO6 := Lib.hid (O6.out.grew (Grew.stored (lo := w.heap.size + 2) (g := w.heap.size) (by omega) w4 6 (.slice a6' n6' c6')) L6.out)
  clear hB' hZ' hW' hS'
  go_upto_region 5 with fail
  clear cc ff
  generalize w4.setCell ⟨w.heap.size, 6, none⟩ (.slice a6' n6' c6') = W4 at SB SZ SW SS SO1 SO2 SO5 SO6 ⊢
  have SWS : Hid (w.heap.size + 2 ≤ W4.heap.size) := Lib.hid (by have := SS.out; have := HWS.out; omega)
  clear HB HZ HW HWS O1 O2 O5 O6
  have HB := SB
  have HZ := SZ
  have HW := SW
  have HWS := SWS
  have O1 := SO1
  have O2 := SO2
  have O5 := SO5
  have O6 := SO6
  have T6 : Hid (W4.heap.size = w4.heap.size) := SS
  clear SB SZ SW SS SWS SO1 SO2 SO5 SO6
  have hd : Below W4.heap.size W4 W4.drew := (Below.refl _ _).drew
  have HD := Lib.hid hd
  have hS0 : W4.drew.cell? ⟨w.heap.size, 7, none⟩ = some (.slice a7 n7 c7) ∧ W4.drew.cell? ⟨w.heap.size, 8, none⟩ = some (.slice a8 n8 c8) := ⟨box14 HB.out 7 _ rfl, box14 HB.out 8 _ rfl⟩
  clear hd
  refine wp_region_Z (Z := [7, 8, 9]) (S := fun wx => wx.cell? ⟨w.heap.size, 7, none⟩ = some (.slice a7 n7 c7) ∧ wx.cell? ⟨w.heap.size, 8, none⟩ = some (.slice a8 n8 c8)) (by kernel_rfl) ?_
  refine anyZ_take (i := 0) (v := ?_) rfl (by decide) (by kernel_rfl) (by kernel_rfl) (by kernel_rfl) (fun _ _ _ h => h) (Or.inl ⟨by rfl, ?_⟩) hS0 ?_
  rotate_left
  · (intro wS hS; obtain ⟨sA, sB⟩ := hS; go_simp; try with_reducible rfl)
  simp only [Act.put, List.setIfInBounds_toArray, List.set_cons_zero, List.set_cons_succ]
  refine anyZ_take (i := 1) (v := ?_) rfl (by decide) (by kernel_rfl) (by kernel_rfl) (by kernel_rfl) (fun _ _ _ h => h) (Or.inl ⟨by rfl, ?_⟩) hS0 ?_
  rotate_left
  · (intro wS hS; obtain ⟨sA, sB⟩ := hS; go_simp; try with_reducible rfl)
  simp only [Act.put, List.setIfInBounds_toArray, List.set_cons_zero, List.set_cons_succ]
  refine anyZ_take (i := 3) (v := ?_) rfl (by decide) (by kernel_rfl) (by kernel_rfl) (by kernel_rfl) (fun _ _ _ h => h) (Or.inl ⟨by rfl, ?_⟩) hS0 ?_
  rotate_left
  · (intro wS hS; obtain ⟨sA, sB⟩ := hS; go_simp; try with_reducible rfl)
  simp only [Act.put, List.setIfInBounds_toArray, List.set_cons_zero, List.set_cons_succ]
  refine anyZ_take (i := 4) (v := ?_) rfl (by decide) (by kernel_rfl) (by kernel_rfl) (by kernel_rfl) (fun _ _ _ h => h) (Or.inl ⟨by rfl, ?_⟩) hS0 ?_
  rotate_left
  · (intro wS hS; obtain ⟨sA, sB⟩ := hS; go_simp; try with_reducible rfl)
  simp only [Act.put, List.setIfInBounds_toArray, List.set_cons_zero, List.set_cons_succ]
  refine anyZ_step (i := 2) (by kernel_rfl) rfl (by rfl) (fun K hK => ?_)
  go_simp
  refine (C7.out W4.drew (HW.out.trans (HD.out.mono HW.out.size))).mono ?_
  rintro e w5 ⟨a7', c7', rfl, hl, hb0⟩
  have hb : Below W4.heap.size W4 w5 := HD.out.trans hb0
  have ho : OwnI Owned.int (by decide) W4.heap.size w5.heap.size w5 (.slice a7' n7 c7') xs := OwnI.ofRow hl
  have O7 := Lib.hid ho
  clear ho hl hb0 HD
  have hW := HWS.out
  have HB' := Lib.hid ((hb.block w.heap.size (by omega)).trans HB.out)
  have HZ' := Lib.hid ((hb.block (w.heap.size + 1) (by omega)).trans HZ.out)
  have HW' := Lib.hid (HW.out.trans (hb.mono HW.out.size))
  have HWS' := Lib.hid (Nat.le_trans hW hb.size)
  have O1' := Lib.hid (O1.out.grew (Grew.called (lo := w.heap.size + 2) hb) (by first | exact L1.out | omega))
  have O2' := Lib.hid (O2.out.grew (Grew.called (lo := w.heap.size + 2) hb) (by first | exact L2.out | omega))
  have O5' := Lib.hid (O5.out.grew (Grew.called (lo := w.heap.size + 2) hb) (by first | exact L5.out | omega))
  have O6' := Lib.hid (O6.out.grew (Grew.called (lo := w.heap.size + 2) hb) (by first | exact L6.out | omega))
  clear HB HZ HW HWS O1 O2 O5 O6
  have HB := HB'
  have HZ := HZ'
  have HW := HW'
  have HWS := HWS'
  have O1 := O1'
  have O2 := O2'
  have O5 := O5'
  have O6 := O6'
  clear HB' HZ' HW' HWS' O1' O2' O5' O6'
  have L7 : Hid (w.heap.size + 2 ≤ W4.heap.size) := Lib.hid hW
  have M7 : Hid (W4.heap.size ≤ w5.heap.size) := Lib.hid hb.size
  clear hb hW
  have hS1 : w5.cell? ⟨w.heap.size, 7, none⟩ = some (.slice a7 n7 c7) ∧ w5.cell? ⟨w.heap.size, 8, none⟩ = some (.slice a8 n8 c8) := ⟨box14 HB.out 7 _ rfl, box14 HB.out 8 _ rfl⟩
  refine hK _ _ (.inr hS1) ?_
  try simp only [Act.put, List.setIfInBounds_toArray, List.set_cons_zero, List.set_cons_succ]
  clear hK
  refine anyZ_take (i := 6) (v := ?_) rfl (by decide) (by kernel_rfl) (by kernel_rfl) (by kernel_rfl) (fun _ _ _ h => h) (Or.inl ⟨by rfl, ?_⟩) hS1 ?_
  rotate_left
  · (intro wS hS; obtain ⟨sA, sB⟩ := hS; go_simp; try with_reducible rfl)
  simp only [Act.put, List.setIfInBounds_toArray, List.set_cons_zero, List.set_cons_succ]
  refine anyZ_step (i := 5) (by kernel_rfl) rfl (by rfl) (fun K hK => ?_)
  go_simp
  refine (C8.out w5 HW.out).mono ?_
  rintro e w6 ⟨a8', c8', rfl, hl, hb⟩
  have ho : OwnI Owned.int (by decide) w5.heap.size w6.heap.size w6 (.slice a8' n8 c8') ys := OwnI.ofRow hl
  have O8 := Lib.hid ho
  clear ho hl hS0 hS1
  have hW := HWS.out
  have HB' := Lib.hid ((hb.block w.heap.size (by omega)).trans HB.out)
  have HZ' := Lib.hid ((hb.block (w.heap.size + 1) (by omega)).trans HZ.out)
  have HW' := Lib.hid (HW.out.trans (hb.mono HW.out.size))
  have HWS' := Lib.hid (Nat.le_trans hW hb.size)
  have O1' := Lib.hid (O1.out.grew (Grew.called (lo := w.heap.size + 2) hb) (by first | exact L1.out | omega))
  have O2' := Lib.hid (O2.out.grew (Grew.called (lo := w.heap.size + 2) hb) (by first | exact L2.out | omega))
  have O5' := Lib.hid (O5.out.grew (Grew.called (lo := w.heap.size + 2) hb) (by first | exact L5.out | omega))
  have O6' := Lib.hid (O6.out.grew (Grew.called (lo := w.heap.size + 2) hb) (by first | exact L6.out | omega))
  have O7' := Lib.hid (O7.out.grew (Grew.called (lo := w.heap.size + 2) hb) (by first | exact L7.out | omega))
  clear HB HZ HW HWS O1 O2 O5 O6 O7
  have HB := HB'
  have HZ := HZ'
  have HW := HW'
  have HWS := HWS'
  have O1 := O1'
  have O2 := O2'
  have O5 := O5'
  have O6 := O6'
  have O7 := O7'
  clear HB' HZ' HW' HWS' O1' O2' O5' O6' O7'
  have L8 : Hid (w.heap.size + 2 ≤ w5.heap.size) := Lib.hid hW
  have M8 : Hid (w5.heap.size ≤ w6.heap.size) := Lib.hid hb.size
  clear hb hW
  have hS2 : w6.cell? ⟨w.heap.size, 7, none⟩ = some (.slice a7 n7 c7) ∧ w6.cell? ⟨w.heap.size, 8, none⟩ = some (.slice a8 n8 c8) := ⟨box14 HB.out 7 _ rfl, box14 HB.out 8 _ rfl⟩
  refine hK _ _ (.inr hS2) ?_
  try simp only [Act.put, List.setIfInBounds_toArray, List.set_cons_zero, List.set_cons_succ]
  clear hK
  obtain ⟨s0, s1⟩ := hS2
  have f0 : w6.frozen? ⟨w.heap.size, 7, none⟩ = false := frozen_of_row _ _ _ _ _ HB.out
  refine anyZ_step (i := 7) (by kernel_rfl) rfl (by rfl) (fun K hK => ?_)
  go_simp
  refine hK _ _ (.inl (late_of (by kernel_rfl))) ?_
  try simp only [Act.put, List.setIfInBounds_toArray, List.set_cons_zero, List.set_cons_succ]
  clear hK s0 s1 f0
  have hB' : (w6.setCell ⟨w.heap.size, 7, none⟩ (.slice a7' n7 c7')).heap[w.heap.size]? = some (.cells #[.int .i64 pc, .slice a1' n1' c1', .slice a2' n2' c2', .bool last, .bool redo, .slice a5' n5' c5', .slice a6' n6' c6', .slice a7' n7 c7', .slice a8 n8 c8, .slice a9 n9 c9, .slice a10 n10 c10, .slice a11 n11 c11, .int .i64 loss, .bool sat] 34 (0, 0)) := by
    have := heap_setCell_same w6 w.heap.size 7 _ _ (.slice a7' n7 c7') HB.out
    simpa only [List.setIfInBounds_toArray, List.set_cons_zero, List.set_cons_succ] using this
  have hZ' : (w6.setCell ⟨w.heap.size, 7, none⟩ (.slice a7' n7 c7')).heap[w.heap.size + 1]? = some (.cells zeroC 34 (0, 0)) := (Below.heap_setCell _ _ _ _ (by show w.heap.size + 1 ≠ w.heap.size; omega)).trans HZ.out
  have hW' := HW.out.setCell (p := ⟨w.heap.size, 7, none⟩) (Nat.le_refl _) (.slice a7' n7 c7')
  have hS' : (w6.setCell ⟨w.heap.size, 7, none⟩ (.slice a7' n7 c7')).heap.size = w6.heap.size := by simp
  have SB := Lib.hid hB'
  have SZ := Lib.hid hZ'
  have SW := Lib.hid hW'
  have SS := Lib.hid hS'
  have SO1 := Lib.hid (O1.out.grew (Grew.stored (lo := w.heap.size + 2) (g := w.heap.size) (by omega) w6 7 (.slice a7' n7 c7')) L1.out)
  have SO2 := Lib.hid (O2.out.grew (Grew.stored (lo := w.heap.size + 2) (g := w.heap.size) (by omega) w6 7 (.slice a7' n7 c7')) L2.out)
  have SO5 := Lib.hid (O5.out.grew (Grew.stored (lo := w.heap.size + 2) (g := w.heap.size) (by omega) w6 7 (.slice a7' n7 c7')) L5.out)
  have SO6 := Lib.hid (O6.out.grew (Grew.stored (lo := w.heap.size + 2) (g := w.heap.size) (by omega) w6 7 (.slice a7' n7 c7')) L6.out)
  have SO7 := Lib.hid (O7.out.grew (Grew.stored (lo := w.heap.size + 2) (g := w.heap.size) (by omega) w6 7 (.slice a7' n7 c7')) L7.out)
  have SO8 := Lib.hid (O8.out.grew (Grew.stored (lo := w.heap.size + 2) (g := w.heap.size) (by omega) w6 7 (.slice a7' n7 c7')) L8.out)
  clear hB' hZ' hW' hS'
  generalize w6.setCell ⟨w.heap.size, 7, none⟩ (.slice a7' n7 c7') = Y5 at SB SZ SW SS SO1 SO2 SO5 SO6 SO7 SO8 ⊢
  have SWS : Hid (w.heap.size + 2 ≤ Y5.heap.size) := Lib.hid (by have := SS.out; have := HWS.out; omega)
  clear HB HZ HW HWS O1 O2 O5 O6 O7 O8
  have HB := SB
  have HZ := SZ
  have HW := SW
  have HWS := SWS
  have O1 := SO1
  have O2 := SO2
  have O5 := SO5
  have O6 := SO6
  have O7 := SO7
  have O8 := SO8
  have T7 : Hid (Y5.heap.size = w6.heap.size) := SS
  clear SB SZ SW SS SWS SO1 SO2 SO5 SO6 SO7 SO8
  refine anyZ_step (i := 8) (by kernel_rfl) rfl (by rfl) (fun K hK => ?_)
  go_simp
  refine hK _ _ (.inl (late_of (by kernel_rfl))) ?_
  try simp only [Act.put, List.setIfInBounds_toArray, List.set_cons_zero, List.set_cons_succ]
  clear hK
  have s1 := box14 HB.out 8 _ rfl
  have f1 : Y5.frozen? ⟨w.heap.size, 8, none⟩ = false := frozen_of_row _ _ _ _ _ HB.out
  refine anyZ_step (i := 9) (by kernel_rfl) rfl (by rfl) (fun K hK => ?_)
  go_simp
  refine hK _ _ (.inl (late_of (by kernel_rfl))) ?_
  try simp only [Act.put, List.setIfInBounds_toArray, List.set_cons_zero, List.set_cons_succ]
  clear hK s1 f1
  refine anyZ_done (by kernel_rfl) ?_ _
  have hB' : (Y5.setCell ⟨w.heap.size, 8, none⟩ (.slice a8' n8 c8')).heap[w.heap.size]? = some (.cells #[.int .i64 pc, .slice a1' n1' c1', .slice a2' n2' c2', .bool last, .bool redo, .slice a5' n5' c5', .slice a6' n6' c6', .slice a7' n7 c7', .slice a8' n8 c8', .slice a9 n9 c9, .slice a10 n10 c10, .slice a11 n11 c11, .int .i64 loss, .bool sat] 34 (0, 0)) := by
    have := heap_setCell_same Y5 w.heap.size 8 _ _ (.slice a8' n8 c8') HB.out
    simpa only [List.setIfInBounds_toArray, List.set_cons_zero, List.set_cons_succ] using this
  have hZ' : (Y5.setCell ⟨w.heap.size, 8, none⟩ (.slice a8' n8 c8')).heap[w.heap.size + 1]? = some (.cells zeroC 34 (0, 0)) := (Below.heap_setCell _ _ _ _ (by show w.heap.size + 1 ≠ w.heap.size; omega)).trans HZ.out
  have hW' := HW.out.setCell (p := ⟨w.heap.size, 8, none⟩) (Nat.le_refl _) (.slice a8' n8 c8')
  have hS' : (Y5.setCell ⟨w.heap.size, 8, none⟩ (.slice a8' n8 c8')).heap.size = Y5.heap.size := by simp
  have SB := Lib.hid hB'
  have SZ := Lib.hid hZ'
  have SW := Lib.hid hW'
  have SS := Lib.hid hS'
  have SO1 := Lib.hid (O1.out.grew (Grew.stored (lo := w.heap.size + 2) (g := w.heap.size) (by omega) Y5 8 (.slice a8' n8 c8')) L1.out)
  have SO2 := Lib.hid (O2.out.grew (Grew.stored (lo := w.heap.size + 2) (g := w.heap.size) (by omega) Y5 8 (.slice a8' n8 c8')) L2.out)
  have SO5 := Lib.hid (O5.out.grew (Grew.stored (lo := w.heap.size + 2) (g := w.heap.size) (by omega) Y5 8 (.slice a8' n8 c8')) L5.out)
  have SO6 := Lib.hid (O6.out.grew (Grew.stored (lo := w.heap.size + 2) (g := w.heap.size) (by omega) Y5 8 (.slice a8' n8 c8')) L6.out)
  have SO7 := Lib.hid (O7.out.grew (Grew.stored (lo := w.heap.size + 2) (g := w.heap.size) (by omega) Y5 8 (.slice a8' n8 c8')) L7.out)
  have SO8 := Lib.hid (O8.out.grew (Grew.stored (lo := w.heap.size + 2) (g := w.heap.size) (by omega) Y5 8 (.slice a8' n8 c8')) L8.out)
  clear hB' hZ' hW' hS'
  generalize Y5.setCell ⟨w.heap.size, 8, none⟩ (.slice a8' n8 c8') = W6 at SB SZ SW SS SO1 SO2 SO5 SO6 SO7 SO8 ⊢
  have SWS : Hid (w.heap.size + 2 ≤ W6.heap.size) := Lib.hid (by have := SS.out; have := HWS.out; omega)
  clear HB HZ HW HWS O1 O2 O5 O6 O7 O8
  have HB := SB
  have HZ := SZ
  have HW := SW
  have HWS := SWS
  have O1 := SO1
  have O2 := SO2
  have O5 := SO5
  have O6 := SO6
  have O7 := SO7
  have O8 := SO8
  have T8 : Hid (W6.heap.size = Y5.heap.size) := SS
  clear SB SZ SW SS SWS SO1 SO2 SO5 SO6 SO7 SO8
  go_upto_region 6 with fail
  have hd : Below W6.heap.size W6 W6.drew := (Below.refl _ _).drew
  have HD := Lib.hid hd
  have hS0 : W6.drew.cell? ⟨w.heap.size, 9, none⟩ = some (.slice a9 n9 c9) ∧ W6.drew.cell? ⟨w.heap.size, 10, none⟩ = some (.slice a10 n10 c10) := ⟨box14 HB.out 9 _ rfl, box14 HB.out 10 _ rfl⟩
  clear hd
  refine wp_region_Z (Z := [7, 8, 9]) (S := fun wx => wx.cell? ⟨w.heap.size, 9, none⟩ = some (.slice a9 n9 c9) ∧ wx.cell? ⟨w.heap.size, 10, none⟩ = some (.slice a10 n10 c10)) (by kernel_rfl) ?_
  refine anyZ_take (i := 0) (v := ?_) rfl (by decide) (by kernel_rfl) (by kernel_rfl) (by kernel_rfl) (fun _ _ _ h => h) (Or.inl ⟨by rfl, ?_⟩) hS0 ?_
  rotate_left
  · (intro wS hS; obtain ⟨sA, sB⟩ := hS; go_simp; try with_reducible rfl)
  simp only [Act.put, List.setIfInBounds_toArray, List.set_cons_zero, List.set_cons_succ]
  refine anyZ_take (i := 1) (v := ?_) rfl (by decide) (by kernel_rfl) (by kernel_rfl) (by kernel_rfl) (fun _ _ _ h => h) (Or.inl ⟨by rfl, ?_⟩) hS0 ?_
  rotate_left
  · (intro wS hS; obtain ⟨sA, sB⟩ := hS; go_simp; try with_reducible rfl)
  simp only [Act.put, List.setIfInBounds_toArray, List.set_cons_zero, List.set_cons_succ]
  refine anyZ_take (i := 3) (v := ?_) rfl (by decide) (by kernel_rfl) (by kernel_rfl) (by kernel_rfl) (fun _ _ _ h => h) (Or.inl ⟨by rfl, ?_⟩) hS0 ?_
  rotate_left
  · (intro wS hS; obtain ⟨sA, sB⟩ := hS; go_simp; try with_reducible rfl)
  simp only [Act.put, List.setIfInBounds_toArray, List.set_cons_zero, List.set_cons_succ]
  refine anyZ_take (i := 4) (v := ?_) rfl (by decide) (by kernel_rfl) (by kernel_rfl) (by kernel_rfl) (fun _ _ _ h => h) (Or.inl ⟨by rfl, ?_⟩) hS0 ?_
  rotate_left
  · (intro wS hS; obtain ⟨sA, sB⟩ := hS; go_simp; try with_reducible rfl)
  simp only [Act.put, List.setIfInBounds_toArray, List.set_cons_zero, List.set_cons_succ]
  refine anyZ_step (i := 2) (by kernel_rfl) rfl (by rfl) (fun K hK => ?_)
  go_simp
  refine (C9.out W6.drew (HW.out.trans (HD.out.mono HW.out.size))).mono ?_
  rintro e w7 ⟨a9', c9', rfl, hl, hb0⟩
  have hb : Below W6.heap.size W6 w7 := HD.out.trans hb0
  have ho : OwnI Owned.int (by decide) W6.heap.size w7.heap.size w7 (.slice a9' n9 c9') gs := OwnI.ofRow hl
  have O9 := Lib.hid ho
  clear ho hl hb0 HD
  have hW := HWS.out
  have HB' := Lib.hid ((hb.block w.heap.size (by omega)).trans HB.out)
  have HZ' := Lib.hid ((hb.block (w.heap.size + 1) (by omega)).trans HZ.out)
  have HW' := Lib.hid (HW.out.trans (hb.mono HW.out.size))
  have HWS' := Lib.hid (Nat.le_trans hW hb.size)
  have O1' := Lib.hid (O1.out.grew (Grew.called (lo := w.heap.size + 2) hb) (by first | exact L1.out | omega))
  have O2' := Lib.hid (O2.out.grew (Grew.called (lo := w.heap.size + 2) hb) (by first | exact L2.out | omega))
  have O5' := Lib.hid (O5.out.grew (Grew.called (lo := w.heap.size + 2) hb) (by first | exact L5.out | omega))
  have O6' := Lib.hid (O6.out.grew (Grew.called (lo := w.heap.size + 2) hb) (by first | exact L6.out | omega))
  have O7' := Lib.hid (O7.out.grew (Grew.called (lo := w.heap.size + 2) hb) (by first | exact L7.out | omega))
  have O8' := Lib.hid (O8.out.grew (Grew.called (lo := w.heap.size + 2) hb) (by first | exact L8.out | omega))
  clear HB HZ HW HWS O1 O2 O5 O6 O7 O8
  have HB := HB'
  have HZ := HZ'
  have HW := HW'
  have HWS := HWS'
  have O1 := O1'
  have O2 := O2'
  have O5 := O5'
  have O6 := O6'
  have O7 := O7'
  have O8 := O8'
  clear HB' HZ' HW' HWS' O1' O2' O5' O6' O7' O8'
  have L9 : Hid (w.heap.size + 2 ≤ W6.heap.size) := Lib.hid hW
  have M9 : Hid (W6.heap.size ≤ w7.heap.size) := Lib.hid hb.size
  clear hb hW
  have hS1 : w7.cell? ⟨w.heap.size, 9, none⟩ = some (.slice a9 n9 c9) ∧ w7.cell? ⟨w.heap.size, 10, none⟩ = some (.slice a10 n10 c10) := ⟨box14 HB.out 9 _ rfl, box14 HB.out 10 _ rfl⟩
  refine hK _ _ (.inr hS1) ?_
  try simp only [Act.put, List.setIfInBounds_toArray, List.set_cons_zero, List.set_cons_succ]
  clear hK
  refine anyZ_take (i := 6) (v := ?_) rfl (by decide) (by kernel_rfl) (by kernel_rfl) (by kernel_rfl) (fun _ _ _ h => h) (Or.inl ⟨by rfl, ?_⟩) hS1 ?_
  rotate_left
  · (intro wS hS; obtain ⟨sA, sB⟩ := hS; go_simp; try with_reducible rfl)
  simp only [Act.put, List.setIfInBounds_toArray, List.set_cons_zero, List.set_cons_succ]
  refine anyZ_step (i := 5) (by kernel_rfl) rfl (by rfl) (fun K hK => ?_)
  go_simp
  refine (C10.out w7 HW.out).mono ?_
  rintro e w8 ⟨a10', c10', rfl, hl, hb⟩
  have ho : OwnI Owned.int (by decide) w7.heap.size w8.heap.size w8 (.slice a10' n10 c10') ds := OwnI.ofRow hl
  have O10 := Lib.hid ho
  clear ho hl hS0 hS1
  have hW := HWS.out
  have HB' := Lib.hid ((hb.block w.heap.size (by omega)).trans HB.out)
  have HZ' := Lib.hid ((hb.block (w.heap.size + 1) (by omega)).trans HZ.out)
  have HW' := Lib.hid (HW.out.trans (hb.mono HW.out.size))
  have HWS' := Lib.hid (Nat.le_trans hW hb.size)
  have O1' := Lib.hid (O1.out.grew (Grew.called (lo := w.heap.size + 2) hb) (by first | exact L1.out | omega))
  have O2' := Lib.hid (O2.out.grew (Grew.called (lo := w.heap.size + 2) hb) (by first | exact L2.out | omega))
  have O5' := Lib.hid (O5.out.grew (Grew.called (lo := w.heap.size + 2) hb) (by first | exact L5.out | omega))
  have O6' := Lib.hid (O6.out.grew (Grew.called (lo := w.heap.size + 2) hb) (by first | exact L6.out | omega))
  have O7' := Lib.hid (O7.out.grew (Grew.called (lo := w.heap.size + 2) hb) (by first | exact L7.out | omega))
  have O8' := Lib.hid (O8.out.grew (Grew.called (lo := w.heap.size + 2) hb) (by first | exact L8.out | omega))
  have O9' := Lib.hid (O9.out.grew (Grew.called (lo := w.heap.size + 2) hb) (by first | exact L9.out | omega))
  clear HB HZ HW HWS O1 O2 O5 O6 O7 O8 O9
  have HB := HB'
  have HZ := HZ'
  have HW := HW'
  have HWS := HWS'
  have O1 := O1'
  have O2 := O2'
  have O5 := O5'
  have O6 := O6'
  have O7 := O7'
  have O8 := O8'
  have O9 := O9'
  clear HB' HZ' HW' HWS' O1' O2' O5' O6' O7' O8' O9'
  have L10 : Hid (w.heap.size + 2 ≤ w7.heap.size) := Lib.hid hW
  have M10 : Hid (w7.heap.size ≤ w8.heap.size) := Lib.hid hb.size
  clear hb hW
  have hS2 : w8.cell? ⟨w.heap.size, 9, none⟩ = some (.slice a9 n9 c9) ∧ w8.cell? ⟨w.heap.size, 10, none⟩ = some (.slice a10 n10 c10) := ⟨box14 HB.out 9 _ rfl, box14 HB.out 10 _ rfl⟩
  refine hK _ _ (.inr hS2) ?_
  try simp only [Act.put, List.setIfInBounds_toArray, List.set_cons_zero, List.set_cons_succ]
  clear hK
  obtain ⟨s0, s1⟩ := hS2
  have f0 : w8.frozen? ⟨w.heap.size, 9, none⟩ = false := frozen_of_row _ _ _ _ _ HB.out
  refine anyZ_step (i := 7) (by kernel_rfl) rfl (by rfl) (fun K hK => ?_)
  go_simp
  refine hK _ _ (.inl (late_of (by kernel_rfl))) ?_
  try simp only [Act.put, List.setIfInBounds_toArray, List.set_cons_zero, List.set_cons_succ]
  clear hK s0 s1 f0
  have hB' : (w8.setCell ⟨w.heap.size, 9, none⟩ (.slice a9' n9 c9')).heap[w.heap.size]? = some (.cells #[.int .i64 pc, .slice a1' n1' c1', .slice a2' n2' c2', .bool last, .bool redo, .slice a5' n5' c5', .slice a6' n6' c6', .slice a7' n7 c7', .slice a8' n8 c8', .slice a9' n9 c9', .slice a10 n10 c10, .slice a11 n11 c11, .int .i64 loss, .bool sat] 34 (0, 0)) := by
    have := heap_setCell_same w8 w.heap.size 9 _ _ (.slice a9' n9 c9') HB.out
    simpa only [List.setIfInBounds_toArray, List.set_cons_zero, List.set_cons_succ] using this
  have hZ' : (w8.setCell ⟨w.heap.size, 9, none⟩ (.slice a9' n9 c9')).heap[w.heap.size + 1]? = some (.cells zeroC 34 (0, 0)) := (Below.heap_setCell _ _ _ _ (by show w.heap.size + 1 ≠ w.heap.size; omega)).trans HZ.out
  have hW' := HW.out.setCell (p := ⟨w.heap.size, 9, none⟩) (Nat.le_refl _) (.slice a9' n9 c9')
  have hS' : (w8.setCell ⟨w.heap.size, 9, none⟩ (.slice a9' n9 c9')).heap.size = w8.heap.size := by simp
  have SB := Lib.hid hB'
  have SZ := Lib.hid hZ'
  have SW := Lib.hid hW'
  have SS := Lib.hid hS'
  have SO1 := Lib.hid (O1.out.grew (Grew.stored (lo := w.heap.size + 2) (g := w.heap.size) (by omega) w8 9 (.slice a9' n9 c9')) L1.out)
  have SO2 := Lib.hid (O2.out.grew (Grew.stored (lo := w.heap.size + 2) (g := w.heap.size) (by omega) w8 9 (.slice a9' n9 c9')) L2.out)
  have SO5 := Lib.hid (O5.out.grew (Grew.stored (lo := w.heap.size + 2) (g := w.heap.size) (by omega) w8 9 (.slice a9' n9 c9')) L5.out)
  have SO6 := Lib.hid (O6.out.grew (Grew.stored (lo := w.heap.size + 2) (g := w.heap.size) (by omega) w8 9 (.slice a9' n9 c9')) L6.out)
  have SO7 := Lib.hid (O7.out.grew (Grew.stored (lo := w.heap.size + 2) (g := w.heap.size) (by omega) w8 9 (.slice a9' n9 c9')) L7.out)
  have SO8 := Lib.hid (O8.out.grew (Grew.stored (lo := w.heap.size + 2) (g := w.heap.size) (by omega) w8 9 (.slice a9' n9 c9')) L8.out)
  have SO9 := Lib.hid (O9.out.grew (Grew.stored (lo := w.heap.size + 2) (g := w.heap.size) (by omega) w8 9 (.slice a9' n9 c9')) L9.out)
  have SO10 := Lib.hid (O10.out.grew (Grew.stored (lo := w.heap.size + 2) (g := w.heap.size) (by omega) w8 9 (.slice a9' n9 c9')) L10.out)
  clear hB' hZ' hW' hS'
  generalize w8.setCell ⟨w.heap.size, 9, none⟩ (.slice a9' n9 c9') = Y7 at SB SZ SW SS SO1 SO2 SO5 SO6 SO7 SO8 SO9 SO10 ⊢
  have SWS : Hid (w.heap.size + 2 ≤ Y7.heap.size) := Lib.hid (by have := SS.out; have := HWS.out; omega)
  clear HB HZ HW HWS O1 O2 O5 O6 O7 O8 O9 O10
  have HB := SB
  have HZ := SZ
  have HW := SW
  have HWS := SWS
  have O1 := SO1
  have O2 := SO2
  have O5 := SO5
  have O6 := SO6
  have O7 := SO7
  have O8 := SO8
  have O9 := SO9
  have O10 := SO10
  have T9 : Hid (Y7.heap.size = w8.heap.size) := SS
  clear SB SZ SW SS SWS SO1 SO2 SO5 SO6 SO7 SO8 SO9 SO10
  refine anyZ_step (i := 8) (by kernel_rfl) rfl (by rfl) (fun K hK => ?_)
  go_simp
  refine hK _ _ (.inl (late_of (by kernel_rfl))) ?_
  try simp only [Act.put, List.setIfInBounds_toArray, List.set_cons_zero, List.set_cons_succ]
  clear hK
  have s1 := box14 HB.out 10 _ rfl
  have f1 : Y7.frozen? ⟨w.heap.size, 10, none⟩ = false := frozen_of_row _ _ _ _ _ HB.out
  refine anyZ_step (i := 9) (by kernel_rfl) rfl (by rfl) (fun K hK => ?_)
  go_simp
  refine hK _ _ (.inl (late_of (by kernel_rfl))) ?_
  try simp only [Act.put, List.setIfInBounds_toArray, List.set_cons_zero, List.set_cons_succ]
  clear hK s1 f1
  refine anyZ_done (by kernel_rfl) ?_ _
  have hB' : (Y7.setCell ⟨w.heap.size, 10, none⟩ (.slice a10' n10 c10')).heap[w.heap.size]? = some (.cells #[.int .i64 pc, .slice a1' n1' c1', .slice a2' n2' c2', .bool last, .bool redo, .slice a5' n5' c5', .slice a6' n6' c6', .slice a7' n7 c7', .slice a8' n8 c8', .slice a9' n9 c9', .slice a10' n10 c10', .slice a11 n11 c11, .int .i64 loss, .bool sat] 34 (0, 0)) := by
    have := heap_setCell_same Y7 w.heap.size 10 _ _ (.slice a10' n10 c10') HB.out
    simpa only [List.setIfInBounds_toArray, List.set_cons_zero, List.set_cons_succ] using this
  have hZ' : (Y7.setCell ⟨w.heap.size, 10, none⟩ (.slice a10' n10 c10')).heap[w.heap.size + 1]? = some (.cells zeroC 34 (0, 0)) := (Below.heap_setCell _ _ _ _ (by show w.heap.size + 1 ≠ w.heap.size; omega)).trans HZ.out
  have hW' := HW.out.setCell (p := ⟨w.heap.size, 10, none⟩) (Nat.le_refl _) (.slice a10' n10 c10')
  have hS' : (Y7.setCell ⟨w.heap.size, 10, none⟩ (.slice a10' n10 c10')).heap.size = Y7.heap.size := by simp
  have SB := Lib.hid hB'
  have SZ := Lib.hid hZ'
  have SW := Lib.hid hW'
  have SS := Lib.hid hS'
  have SO1 := Lib.hid (O1.out.grew (Grew.stored (lo := w.heap.size + 2) (g := w.heap.size) (by omega) Y7 10 (.slice a10' n10 c10')) L1.out)
  have SO2 := Lib.hid (O2.out.grew (Grew.stored (lo := w.heap.size + 2) (g := w.heap.size) (by omega) Y7 10 (.slice a10' n10 c10')) L2.out)
  have SO5 := Lib.hid (O5.out.grew (Grew.stored (lo := w.heap.size + 2) (g := w.heap.size) (by omega) Y7 10 (.slice a10' n10 c10')) L5.out)
  have SO6 := Lib.hid (O6.out.grew (Grew.stored (lo := w.heap.size + 2) (g := w.heap.size) (by omega) Y7 10 (.slice a10' n10 c10')) L6.out)
  have SO7 := Lib.hid (O7.out.grew (Grew.stored (lo := w.heap.size + 2) (g := w.heap.size) (by omega) Y7 10 (.slice a10' n10 c10')) L7.out)
  have SO8 := Lib.hid (O8.out.grew (Grew.stored (lo := w.heap.size + 2) (g := w.heap.size) (by omega) Y7 10 (.slice a10' n10 c10')) L8.out)
  have SO9 := Lib.hid (O9.out.grew (Grew.stored (lo := w.heap.size + 2) (g := w.heap.size) (by omega) Y7 10 (.slice a10' n10 c10')) L9.out)
  have SO10 := Lib.hid (O10.out.grew (Grew.stored (lo := w.heap.size + 2) (g := w.heap.size) (by omega) Y7 10 (.slice a10' n10 c10')) L10.out)
  clear hB' hZ' hW' hS'
  generalize Y7.setCell ⟨w.heap.size, 10, none⟩ (.slice a10' n10 c10') = W8 at SB SZ SW SS SO1 SO2 SO5 SO6 SO7 SO8 SO9 SO10 ⊢
  have SWS : Hid (w.heap.size + 2 ≤ W8.heap.size) := Lib.hid (by have := SS.out; have := HWS.out; omega)
  clear HB HZ HW HWS O1 O2 O5 O6 O7 O8 O9 O10
  have HB := SB
  have HZ := SZ
  have HW := SW
  have HWS := SWS
  have O1 := SO1
  have O2 := SO2
  have O5 := SO5
  have O6 := SO6
  have O7 := SO7
  have O8 := SO8
  have O9 := SO9
  have O10 := SO10
  have T10 : Hid (W8.heap.size = Y7.heap.size) := SS
  clear SB SZ SW SS SWS SO1 SO2 SO5 SO6 SO7 SO8 SO9 SO10
  go_upto_region 7 with fail
  have z := box14 HB.out 11 _ rfl
  go_wp2_with fail
  refine (C11.out W8 HW.out).mono ?_
  rintro e w9 ⟨v11, rfl, hl, hb⟩
  have ho : OwnI ownRow (by decide) _ _ _ _ _ := OwnI.ofL hl
  obtain ⟨a11', n11', c11', rfl⟩ := ho.form
  have O11 := Lib.hid ho
  clear ho hl
  clear z
  have hW := HWS.out
  have HB' := Lib.hid ((hb.block w.heap.size (by omega)).trans HB.out)
  have HZ' := Lib.hid ((hb.block (w.heap.size + 1) (by omega)).trans HZ.out)
  have HW' := Lib.hid (HW.out.trans (hb.mono HW.out.size))
  have HWS' := Lib.hid (Nat.le_trans hW hb.size)
  have O1' := Lib.hid (O1.out.grew (Grew.called (lo := w.heap.size + 2) hb) (by first | exact L1.out | omega))
  have O2' := Lib.hid (O2.out.grew (Grew.called (lo := w.heap.size + 2) hb) (by first | exact L2.out | omega))
  have O5' := Lib.hid (O5.out.grew (Grew.called (lo := w.heap.size + 2) hb) (by first | exact L5.out | omega))
  have O6' := Lib.hid (O6.out.grew (Grew.called (lo := w.heap.size + 2) hb) (by first | exact L6.out | omega))
  have O7' := Lib.hid (O7.out.grew (Grew.called (lo := w.heap.size + 2) hb) (by first | exact L7.out | omega))
  have O8' := Lib.hid (O8.out.grew (Grew.called (lo := w.heap.size + 2) hb) (by first | exact L8.out | omega))
  have O9' := Lib.hid (O9.out.grew (Grew.called (lo := w.heap.size + 2) hb) (by first | exact L9.out | omega))
  have O10' := Lib.hid (O10.out.grew (Grew.called (lo := w.heap.size + 2) hb) (by first | exact L10.out | omega))
  clear HB HZ HW HWS O1 O2 O5 O6 O7 O8 O9 O10
  have HB := HB'
  have HZ := HZ'
  have HW := HW'
  have HWS := HWS'
  have O1 := O1'
  have O2 := O2'
  have O5 := O5'
  have O6 := O6'
  have O7 := O7'
  have O8 := O8'
  have O9 := O9'
  have O10 := O10'
  clear HB' HZ' HW' HWS' O1' O2' O5' O6' O7' O8' O9' O10'
  have L11 : Hid (w.heap.size + 2 ≤ W8.heap.size) := Lib.hid hW
  have M11 : Hid (W8.heap.size ≤ w9.heap.size) := Lib.hid hb.size
  clear hb hW
  have cc := box14 HB.out 11 _ rfl
  have ff : w9.frozen? ⟨w.heap.size, 11, none⟩ = false := frozen_of_row _ _ _ _ _ HB.out
  have hB' : (w9.setCell ⟨w.heap.size, 11, none⟩ (.slice a11' n11' c11')).heap[w.heap.size]? = some (.cells #[.int .i64 pc, .slice a1' n1' c1', .slice a2' n2' c2', .bool last, .bool redo, .slice a5' n5' c5', .slice a6' n6' c6', .slice a7' n7 c7', .slice a8' n8 c8', .slice a9' n9 c9', .slice a10' n10 c10', .slice a11' n11' c11', .int .i64 loss, .bool sat] 34 (0, 0)) := by
    have := heap_setCell_same w9 w.heap.size 11 _ _ (.slice a11' n11' c11') HB.out
    simpa only [List.setIfInBounds_toArray, List.set_cons_zero, List.set_cons_succ] using this
  have hZ' : (w9.setCell ⟨w.heap.size, 11, none⟩ (.slice a11' n11' c11')).heap[w.heap.size + 1]? = some (.cells zeroC 34 (0, 0)) := (Below.heap_setCell _ _ _ _ (by show w.heap.size + 1 ≠ w.heap.size; omega)).trans HZ.out
  have hW' := HW.out.setCell (p := ⟨w.heap.size, 11, none⟩) (Nat.le_refl _) (.slice a11' n11' c11')
  have hS' : (w9.setCell ⟨w.heap.size, 11, none⟩ (.slice a11' n11' c11')).heap.size = w9.heap.size := by simp
  have SB := Lib.hid hB'
  have SZ := Lib.hid hZ'
  have SW := Lib.hid hW'
  have SS := Lib.hid hS'
  have SO1 := Lib.hid (O1.out.grew (Grew.stored (lo := w.heap.size + 2) (g := w.heap.size) (by omega) w9 11 (.slice a11' n11' c11')) L1.out)
  have SO2 := Lib.hid (O2.out.grew (Grew.stored (lo := w.heap.size + 2) (g := w.heap.size) (by omega) w9 11 (.slice a11' n11' c11')) L2.out)
  have SO5 := Lib.hid (O5.out.grew (Grew.stored (lo := w.heap.size + 2) (g := w.heap.size) (by omega) w9 11 (.slice a11' n11' c11')) L5.out)
  have SO6 := Lib.hid (O6.out.grew (Grew.stored (lo := w.heap.size + 2) (g := w.heap.size) (by omega) w9 11 (.slice a11' n11' c11')) L6.out)
  have SO7 := Lib.hid (O7.out.grew (Grew.stored (lo := w.heap.size + 2) (g := w.heap.size) (by omega) w9 11 (.slice a11' n11' c11')) L7.out)
  have SO8 := Lib.hid (O8.out.grew (Grew.stored (lo := w.heap.size + 2) (g := w.heap.size) (by omega) w9 11 (.slice a11' n11' c11')) L8.out)
  have SO9 := Lib.hid (O9.out.grew (Grew.stored (lo := w.heap.size + 2) (g := w.heap.size) (by omega) w9 11 (.slice a11' n11' c11')) L9.out)
  have SO10 := Lib.hid (O10.out.grew (Grew.stored (lo := w.heap.size + 2) (g := w.heap.size) (by omega) w9 11 (.slice a11' n11' c11')) L10.out)
  have SO11 := Lib.hid (O11.out.grew (Grew.stored (lo := w.heap.size + 2) (g := w.heap.size) (by omega) w9 11 (.slice a11' n11' c11')) L11.out)
  clear hB' hZ' hW' hS'
  go_upto_region 8 with fail
  clear cc ff
  generalize w9.setCell ⟨w.heap.size, 11, none⟩ (.slice a11' n11' c11') = W9 at SB SZ SW SS SO1 SO2 SO5 SO6 SO7 SO8 SO9 SO10 SO11 ⊢
  have SWS : Hid (w.heap.size + 2 ≤ W9.heap.size) := Lib.hid (by have := SS.out; have := HWS.out; omega)
  clear HB HZ HW HWS O1 O2 O5 O6 O7 O8 O9 O10 O11
  have HB := SB
  have HZ := SZ
  have HW := SW
  have HWS := SWS
  have O1 := SO1
  have O2 := SO2
  have O5 := SO5
  have O6 := SO6
  have O7 := SO7
  have O8 := SO8
  have O9 := SO9
  have O10 := SO10
  have O11 := SO11
  have T11 : Hid (W9.heap.size = w9.heap.size) := SS
  clear SB SZ SW SS SWS SO1 SO2 SO5 SO6 SO7 SO8 SO9 SO10 SO11
  have z0 := box14 HB.out 0 _ rfl
  have z1 := box14 HB.out 1 _ rfl
  have z2 := box14 HB.out 2 _ rfl
  have z3 := box14 HB.out 3 _ rfl
  have z4 := box14 HB.out 4 _ rfl
  have z5 := box14 HB.out 5 _ rfl
  have z6 := box14 HB.out 6 _ rfl
  have z7 := box14 HB.out 7 _ rfl
  have z8 := box14 HB.out 8 _ rfl
  have z9 := box14 HB.out 9 _ rfl
  have z10 := box14 HB.out 10 _ rfl
  have z11 := box14 HB.out 11 _ rfl
  have z12 := box14 HB.out 12 _ rfl
  have z13 := box14 HB.out 13 _ rfl
  have q0 := box14 HZ.out 0 _ rfl
  have q1 := box14 HZ.out 1 _ rfl
  have q2 := box14 HZ.out 2 _ rfl
  have q3 := box14 HZ.out 3 _ rfl
  have q4 := box14 HZ.out 4 _ rfl
  have q5 := box14 HZ.out 5 _ rfl
  have q6 := box14 HZ.out 6 _ rfl
  have q7 := box14 HZ.out 7 _ rfl
  have q8 := box14 HZ.out 8 _ rfl
  have q9 := box14 HZ.out 9 _ rfl
  have q10 := box14 HZ.out 10 _ rfl
  have q11 := box14 HZ.out 11 _ rfl
  have q12 := box14 HZ.out 12 _ rfl
  have q13 := box14 HZ.out 13 _ rfl
  have f0 : W9.frozen? ⟨w.heap.size + 1, 0, none⟩ = false := frozen_of_row _ _ _ _ _ HZ.out
  have f1 : W9.frozen? ⟨w.heap.size + 1, 1, none⟩ = false := frozen_of_row _ _ _ _ _ HZ.out
  have f2 : W9.frozen? ⟨w.heap.size + 1, 2, none⟩ = false := frozen_of_row _ _ _ _ _ HZ.out
  have f3 : W9.frozen? ⟨w.heap.size + 1, 3, none⟩ = false := frozen_of_row _ _ _ _ _ HZ.out
  have f4 : W9.frozen? ⟨w.heap.size + 1, 4, none⟩ = false := frozen_of_row _ _ _ _ _ HZ.out
  have f5 : W9.frozen? ⟨w.heap.size + 1, 5, none⟩ = false := frozen_of_row _ _ _ _ _ HZ.out
  have f6 : W9.frozen? ⟨w.heap.size + 1, 6, none⟩ = false := frozen_of_row _ _ _ _ _ HZ.out
  have f7 : W9.frozen? ⟨w.heap.size + 1, 7, none⟩ = false := frozen_of_row _ _ _ _ _ HZ.out
  have f8 : W9.frozen? ⟨w.heap.size + 1, 8, none⟩ = false := frozen_of_row _ _ _ _ _ HZ.out
  have f9 : W9.frozen? ⟨w.heap.size + 1, 9, none⟩ = false := frozen_of_row _ _ _ _ _ HZ.out
  have f10 : W9.frozen? ⟨w.heap.size + 1, 10, none⟩ = false := frozen_of_row _ _ _ _ _ HZ.out
  have f11 : W9.frozen? ⟨w.heap.size + 1, 11, none⟩ = false := frozen_of_row _ _ _ _ _ HZ.out
  have f12 : W9.frozen? ⟨w.heap.size + 1, 12, none⟩ = false := frozen_of_row _ _ _ _ _ HZ.out
  have f13 : W9.frozen? ⟨w.heap.size + 1, 13, none⟩ = false := frozen_of_row _ _ _ _ _ HZ.out
  have hend := stage_boxed HZ.out (.int .i64 pc) (.slice a1' n1' c1') (.slice a2' n2' c2') (.bool last) (.bool redo) (.slice a5' n5' c5') (.slice a6' n6' c6') (.slice a7' n7 c7') (.slice a8' n8 c8') (.slice a9' n9 c9') (.slice a10' n10 c10') (.slice a11' n11' c11') (.int .i64 loss) (.bool sat)
  have hGr : Grew (w.heap.size + 2) W9 ((((((((((((((W9.setCell ⟨w.heap.size + 1, 0, none⟩ (.int .i64 pc)).setCell ⟨w.heap.size + 1, 1, none⟩ (.slice a1' n1' c1')).setCell ⟨w.heap.size + 1, 2, none⟩ (.slice a2' n2' c2')).setCell ⟨w.heap.size + 1, 3, none⟩ (.bool last)).setCell ⟨w.heap.size + 1, 4, none⟩ (.bool redo)).setCell ⟨w.heap.size + 1, 5, none⟩ (.slice a5' n5' c5')).setCell ⟨w.heap.size + 1, 6, none⟩ (.slice a6' n6' c6')).setCell ⟨w.heap.size + 1, 7, none⟩ (.slice a7' n7 c7')).setCell ⟨w.heap.size + 1, 8, none⟩ (.slice a8' n8 c8')).setCell ⟨w.heap.size + 1, 9, none⟩ (.slice a9' n9 c9')).setCell ⟨w.heap.size + 1, 10, none⟩ (.slice a10' n10 c10')).setCell ⟨w.heap.size + 1, 11, none⟩ (.slice a11' n11' c11')).setCell ⟨w.heap.size + 1, 12, none⟩ (.int .i64 loss)).setCell ⟨w.heap.size + 1, 13, none⟩ (.bool sat)) := ⟨Nat.le_of_eq hend.2.1.symm, fun b h1 _ => hend.2.2.1 b (by omega)⟩
  have hbw : Below w.heap.size w ((((((((((((((W9.setCell ⟨w.heap.size + 1, 0, none⟩ (.int .i64 pc)).setCell ⟨w.heap.size + 1, 1, none⟩ (.slice a1' n1' c1')).setCell ⟨w.heap.size + 1, 2, none⟩ (.slice a2' n2' c2')).setCell ⟨w.heap.size + 1, 3, none⟩ (.bool last)).setCell ⟨w.heap.size + 1, 4, none⟩ (.bool redo)).setCell ⟨w.heap.size + 1, 5, none⟩ (.slice a5' n5' c5')).setCell ⟨w.heap.size + 1, 6, none⟩ (.slice a6' n6' c6')).setCell ⟨w.heap.size + 1, 7, none⟩ (.slice a7' n7 c7')).setCell ⟨w.heap.size + 1, 8, none⟩ (.slice a8' n8 c8')).setCell ⟨w.heap.size + 1, 9, none⟩ (.slice a9' n9 c9')).setCell ⟨w.heap.size + 1, 10, none⟩ (.slice a10' n10 c10')).setCell ⟨w.heap.size + 1, 11, none⟩ (.slice a11' n11' c11')).setCell ⟨w.heap.size + 1, 12, none⟩ (.int .i64 loss)).setCell ⟨w.heap.size + 1, 13, none⟩ (.bool sat)) := hend.2.2.2 _ _ (by omega) HW.out
  have hke := hend.1
  have hse := hend.2.1
  have E1 := OwnI.at (O1.out.grew hGr L1.out) rfl rfl
  have m1 : W0.heap.size ≤ w1.heap.size := by have h1 := M1.out; have h2 := M1.out; omega
  have E2 := OwnI.at (O2.out.grew hGr L2.out) T1.out rfl
  have m2 : w1.heap.size ≤ w2.heap.size := by have h1 := M2.out; have h2 := T1.out; omega
  have E5 := ListL.at' (O5.out.grew hGr L5.out) T2.out rfl
  have m5 : w2.heap.size ≤ w3.heap.size := by have h1 := M5.out; have h2 := T2.out; omega
  have E6 := OwnI.at (O6.out.grew hGr L6.out) T5.out rfl
  have m6 : w3.heap.size ≤ w4.heap.size := by have h1 := M6.out; have h2 := T5.out; omega
  have E7 := OwnI.at (O7.out.grew hGr L7.out) T6.out rfl
  have m7 : w4.heap.size ≤ w5.heap.size := by have h1 := M7.out; have h2 := T6.out; omega
  have E8 := OwnI.at (O8.out.grew hGr L8.out) rfl rfl
  have m8 : w5.heap.size ≤ w6.heap.size := by have h1 := M8.out; have h2 := M8.out; omega
  have E9 := OwnI.at (O9.out.grew hGr L9.out) (T8.out.trans T7.out) rfl
  have m9 : w6.heap.size ≤ w7.heap.size := by have h1 := M9.out; have h2 := (T8.out.trans T7.out); omega
  have E10 := OwnI.at (O10.out.grew hGr L10.out) rfl rfl
  have m10 : w7.heap.size ≤ w8.heap.size := by have h1 := M10.out; have h2 := M10.out; omega
  have E11 := OwnI.at (O11.out.grew hGr L11.out) (T10.out.trans T9.out) rfl
  have m11 : w8.heap.size ≤ w9.heap.size := by have h1 := M11.out; have h2 := (T10.out.trans T9.out); omega
  have hl0 := L1.out
  have hK := Lib.hid hke
  have hB' := Lib.hid hbw
  have hT : w9.heap.size ≤ ((((((((((((((W9.setCell ⟨w.heap.size + 1, 0, none⟩ (.int .i64 pc)).setCell ⟨w.heap.size + 1, 1, none⟩ (.slice a1' n1' c1')).setCell ⟨w.heap.size + 1, 2, none⟩ (.slice a2' n2' c2')).setCell ⟨w.heap.size + 1, 3, none⟩ (.bool last)).setCell ⟨w.heap.size + 1, 4, none⟩ (.bool redo)).setCell ⟨w.heap.size + 1, 5, none⟩ (.slice a5' n5' c5')).setCell ⟨w.heap.size + 1, 6, none⟩ (.slice a6' n6' c6')).setCell ⟨w.heap.size + 1, 7, none⟩ (.slice a7' n7 c7')).setCell ⟨w.heap.size + 1, 8, none⟩ (.slice a8' n8 c8')).setCell ⟨w.heap.size + 1, 9, none⟩ (.slice a9' n9 c9')).setCell ⟨w.heap.size + 1, 10, none⟩ (.slice a10' n10 c10')).setCell ⟨w.heap.size + 1, 11, none⟩ (.slice a11' n11' c11')).setCell ⟨w.heap.size + 1, 12, none⟩ (.int .i64 loss)).setCell ⟨w.heap.size + 1, 13, none⟩ (.bool sat)).heap.size := by rw [hse]; have := T11.out; omega
  have HT := Lib.hid hT
  have HSE := Lib.hid hse
  have F1 := Lib.hid E1
  have F2 := Lib.hid E2
  have F5 := Lib.hid E5
  have F6 := Lib.hid E6
  have F7 := Lib.hid E7
  have F8 := Lib.hid E8
  have F9 := Lib.hid E9
  have F10 := Lib.hid E10
  have F11 := Lib.hid E11
  clear hend hGr hbw hke hse hT E1 E2 E5 E6 E7 E8 E9 E10 E11
  go_wp2_with fail
  refine bodyPost_ret (results_cell_row rfl _ _ (w.heap.size + 1) 34 #[.int .i64 pc, .slice a1' n1' c1', .slice a2' n2' c2', .bool last, .bool redo, .slice a5' n5' c5', .slice a6' n6' c6', .slice a7' n7 c7', .slice a8' n8 c8', .slice a9' n9 c9', .slice a10' n10 c10', .slice a11' n11' c11', .int .i64 loss, .bool sat] (0, 0) _ rfl hK.out Try.underlying34 rfl (by kernel_rfl)) rfl ?_
  refine ⟨.slice a1' n1' c1', .slice a2' n2' c2', .slice a5' n5' c5', .slice a6' n6' c6', .slice a7' n7 c7', .slice a8' n8 c8', .slice a9' n9 c9', .slice a10' n10 c10', .slice a11' n11' c11', fun i => [W0.heap.size, w1.heap.size, w2.heap.size, w3.heap.size, w4.heap.size, w5.heap.size, w6.heap.size, w7.heap.size, w8.heap.size, w9.heap.size].getD i 0, rfl, hB'.out, by show w.heap.size ≤ W0.heap.size; omega, HT.out, ?_, F1.out, F2.out, F5.out, F6.out, F7.out, F8.out, F9.out, F10.out, F11.out⟩
  intro j hj
  match j, hj with
  | 0, _ => exact m1
  | 1, _ => exact m2
  | 2, _ => exact m5
  | 3, _ => exact m6
  | 4, _ => exact m7
  | 5, _ => exact m8
  | 6, _ => exact m9
  | 7, _ => exact m10
  | 8, _ => exact m11
  | j + 9, hj => omega
end Go.Proofs.Ytpnifgpmleaohaa

end

/-! YtpnifgpmleaohaaModJ -/
section

namespace Go.Proofs.Ytpnifgpmleaohaa
open Go.RowKit Go.Sort
set_option linter.unusedVariables false

theorem batchOk_inner {m : List dOp} {b : List dPair} (h1 : 1 ≤ b.length) (h5 : b.length ≤ 5) (h : ∀ (j : Nat) (x : dPair), b[j]? = some x → pairOkB (inOfN m) (outOfN m) x = true) : batchOkB m b = true :=
  batchOk_yes (pair_model (h 0 _ (List.getElem?_eq_getElem (by omega)))) (inB_yes (by omega) (by omega)) h
end Go.Proofs.Ytpnifgpmleaohaa

end

/-! YtpnifgpmleaohaaSeqJ -/
section

namespace Go.Proofs.Ytpnifgpmleaohaa
open Go.RowKit Go.Sort
set_option linter.unusedVariables false

theorem zeroRows_good (m : List dOp) : zeroRows m = listK (fun j => noughts (opAt (goodN m) j).2.2.2.length) (goodN m).length := by
  unfold zeroRows goodN
  cases modelOkB m <;> rfl
def GoodIn (B : Nat) (w : World) (m : List dOp) (e : Ending) (w' : World) : Prop := ∃ (a : Option Addr) (n c : Nat), e = .returned (.agg #[.slice a n c]) ∧ ListAt shOp (Under B) w a n (goodN m) ∧ n ≤ c ∧ c ≤ 9223372036854775807 ∧ Below w.heap.size w w'
set_option maxRecDepth 100000 in
set_option maxHeartbeats 3200000 in
/-- modelOf hands back what it was handed, or nothing. -/
theorem implModelOf_b (w : World) (B : Nat) (hB : B ≤ w.heap.size) (a : Option Addr) (n c : Nat) (m : List dOp) (h : ListAt shOp (Under B) w a n m) (hc1 : n ≤ c) (hc2 : c ≤ 9223372036854775807) (hb : (Shape.list shOp).bulk m ≤ 1048576) :
    Calls Try.prog 64 #[.agg #[.slice a n c]] w fun e w' => GoodIn B w m e w' := by
  have hal : Below w.heap.size w ((w.alloc (.cells #[.slice a n c] 65 (0, 0))).alloc (.cells #[.slice none 0 0] 98 (0, 0))) := ((Below.refl _ _).alloc (Nat.le_refl _) _).alloc (by simp) _
  have hs0 : w.heap.size + 1 < ((w.alloc (.cells #[.slice a n c] 65 (0, 0))).alloc (.cells #[.slice none 0 0] 98 (0, 0))).heap.size := by simp
  have HLI := Lib.hid (implLinked_c _ a n c m (((h.le hB).below hal (Nat.le_refl _)).le hal.size) hb)
  have HL := Lib.hid h
  have hlen := h.1
  have HA := Lib.hid hal
  clear h hb hal
  by_cases h8 : 8 < n
  · have hg : decide ((n : Int) > 8) = true := decide_eq_true (by omega)
    have HE := Lib.hid (goodN_big (by rw [hlen]; exact h8))
    go_enter Try.func64, Try.ntmps64
    go_wp2_with fail
    refine bodyPost_ret (results_cell_row rfl _ _ (w.heap.size + 1) 98 #[.slice none 0 0] (0, 0) _ rfl ?_ Try.underlying98 rfl (by kernel_rfl)) rfl ?_
    · have := heap_alloc_new (w.alloc (.cells #[.slice a n c] 65 (0, 0))) (.cells #[.slice none 0 0] 98 (0, 0))
      simpa using this
    exact ⟨none, 0, 0, rfl, by rw [HE.out]; exact noList _ _, Nat.le_refl _, by omega, HA.out⟩
  · have hg : decide ((n : Int) > 8) = false := decide_eq_false (by omega)
    have hz := heap_alloc_new (w.alloc (.cells #[.slice a n c] 65 (0, 0))) (.cells #[.slice none 0 0] 98 (0, 0))
    rw [size_one] at hz
    cases hp : linkedB m with
    | false =>
      rw [hp] at HLI
      have HE := Lib.hid (goodN_bad hp)
      clear hp
      go_enter Try.func64, Try.ntmps64
      go_wp2_with fail
      refine HLI.out.mono ?_
      rintro e w1 ⟨rfl, hb⟩
      have HZ := Lib.hid ((hb.block _ hs0).trans hz)
      have HB := Lib.hid (HA.out.trans (hb.mono HA.out.size))
      have zb : w1.cell? ⟨w.heap.size + 1, 0, none⟩ = _ := cell_of_row _ _ _ _ _ _ HZ.out
      have fb : w1.frozen? ⟨w.heap.size + 1, 0, none⟩ = false := frozen_of_row _ _ _ _ _ HZ.out
      simp only [List.getElem?_toArray, List.getElem?_cons_zero] at zb
      clear hb hz
      go_wp2_with fail
      refine bodyPost_ret (results_cell_row rfl _ _ (w.heap.size + 1) 98 #[.slice none 0 0] (0, 0) _ rfl ?_ Try.underlying98 rfl (by kernel_rfl)) rfl ?_
      · simpa using heap_setCell_same w1 (w.heap.size + 1) 0 _ _ (.slice none 0 0) HZ.out
      exact ⟨none, 0, 0, rfl, by rw [HE.out]; exact noList _ _, Nat.le_refl _, by omega, HB.out.setCell (p := ⟨w.heap.size + 1, 0, none⟩) (by show w.heap.size ≤ w.heap.size + 1; omega) _⟩
    | true =>
      rw [hp] at HLI
      have HE := Lib.hid (goodN_good hp (by omega))
      clear hp
      go_enter Try.func64, Try.ntmps64
      go_wp2_with fail
      refine HLI.out.mono ?_
      rintro e w1 ⟨rfl, hb⟩
      have HZ := Lib.hid ((hb.block _ hs0).trans hz)
      have HB := Lib.hid (HA.out.trans (hb.mono HA.out.size))
      have zb : w1.cell? ⟨w.heap.size + 1, 0, none⟩ = _ := cell_of_row _ _ _ _ _ _ HZ.out
      have fb : w1.frozen? ⟨w.heap.size + 1, 0, none⟩ = false := frozen_of_row _ _ _ _ _ HZ.out
      simp only [List.getElem?_toArray, List.getElem?_cons_zero] at zb
      clear hb hz
      go_wp2_with fail
      refine bodyPost_ret (results_cell_row rfl _ _ (w.heap.size + 1) 98 #[.slice a n c] (0, 0) _ rfl ?_ Try.underlying98 rfl (by kernel_rfl)) rfl ?_
      · simpa using heap_setCell_same w1 (w.heap.size + 1) 0 _ _ (.slice a n c) HZ.out
      exact ⟨a, n, c, rfl, by rw [HE.out]; exact HL.out, hc1, hc2, HB.out.setCell (p := ⟨w.heap.size + 1, 0, none⟩) (by show w.heap.size ≤ w.heap.size + 1; omega) _⟩
theorem ownGrads_stored {F : Foot} {w w' : World} {es : List Value} {x : dGrads} (h : ownGrads.owns F w es x) (hs : SameAt F w w') : ownGrads.owns F w' es x := ownGrads.owns_keep h hs
set_option maxRecDepth 100000 in
set_option maxHeartbeats 6400000 in
theorem implZeroGrads_o (w : World) (es : List Value) (m : dModel) (h : shModel.reads (Under w.heap.size) w es m) (hb : shModel.bulk m ≤ 1048576) :
    Calls Try.prog 39 #[.agg es.toArray] w fun e w' => ∃ es', e = .returned (.agg es'.toArray) ∧ ownGrads.owns (FromB w.heap.size w'.heap.size) w' es' (zeroG m) ∧ Below w.heap.size w w' := by
  obtain ⟨a, n, c, rfl, hc1, hc2, hl⟩ := shModel_reads.1 h
  obtain ⟨i0, hi, hz0, hz1, hz2⟩ := info_parts infoRow1
  have hbx := Boxes.start w #[.slice a n c] #[.slice none 0 0, .int .i64 0, .bool false] #[.slice none 0 0, .int .i64 0, .bool false] 65 32
  have HM := Lib.hid fun (w1 : World) (hb1 : Below w.heap.size w w1) => implModelOf_b w1 w.heap.size hb1.size a n c m (hl.below hb1 (Nat.le_refl _)) hc1 hc2 hb
  have HBX := Lib.hid hbx
  have hsm : ∀ j, j < (goodN m).length → (opAt (goodN m) j).2.2.2.length ≤ 36 := fun j hj => by
    cases hq : modelOkB m with
    | false => rw [goodN_no hq] at hj; exact absurd hj (by simp)
    | true => rw [goodN_yes hq] at hj ⊢; exact modelOk_small hq j hj
  have h8 := (goodN_le m).1
  obtain ⟨g, hgg⟩ : ∃ g, goodN m = g := ⟨_, rfl⟩
  obtain ⟨f, hf⟩ : ∃ f : Nat → List Int, f = fun j => noughts (opAt g j).2.2.2.length := ⟨_, rfl⟩
  have hz : zeroRows m = listK f g.length := by rw [zeroRows_good, hgg, hf]
  rw [hgg] at hsm h8
  have HSM := Lib.hid hsm
  have HF := Lib.hid hf
  have HZ := Lib.hid hz
  have HGG := Lib.hid hgg
  clear h hl hbx hb hsm hf hz hgg
  go_enter Try.func39, Try.ntmps39
  go_wp2_with fail
  generalize ((w.alloc (.cells #[.slice a n c] 65 (0, 0))).alloc (.cells #[.slice none 0 0, .int .i64 0, .bool false] 32 (0, 0))).alloc (.cells #[.slice none 0 0, .int .i64 0, .bool false] 32 (0, 0)) = wa at HBX ⊢
  refine (HM.out wa HBX.out.below).mono ?_
  rintro e wb ⟨ag, ng, cg, rfl, hl, hg1, hg2, hbm⟩
  have hbx := HBX.out.call hbm
  rw [HGG.out] at hl
  have hlen := hl.1
  have hl' := hl.below hbm HBX.out.below.size
  have HL := Lib.hid hl'
  have HB0 := Lib.hid hbx
  have hfd : ∀ w : World, (Instr.field 98 (.agg #[.slice ag ng cg]) 0).run Try.prog w = .ok (.slice ag ng cg) w := fun w => field_model ag ng cg w
  clear hl hl' hbm hbx
  go_wp2_with fail
  go_loopw [10] (fun i wr => ∃ (k : Nat) (v : Value), k ≤ ng ∧ i = .int .i64 k ∧ Boxes w wr #[.slice a n c] #[.slice none 0 0, .int .i64 0, .bool false] #[v, .int .i64 0, .bool false] 65 32 ∧ Below w.heap.size wb wr ∧ ListL ownRow 88 (w.heap.size + 3) wr.heap.size wr v (listK f k)) (fun i _ => ng - (intOf i).toNat)
  case atStart => exact ⟨0, .slice none 0 0, Nat.zero_le _, rfl, HB0.out, Below.refl _ _, ListL.nil _ _ (Nat.le_refl _)⟩
  case round =>
    obtain ⟨k, v, hk, rfl, hbo, hbw, hli⟩ := hrel
    obtain ⟨av, cv, rfl, -, -⟩ := hli.form
    have hkl := listK_length f k
    rw [hkl] at hbo hli
    have hsz3 := hbo.size
    have HBO := Lib.hid hbo
    have HLI := Lib.hid hli
    have HBW := Lib.hid hbw
    by_cases hlt : k < ng
    · obtain ⟨x, hx⟩ : ∃ x, g[k]? = some x := ⟨_, List.getElem?_eq_getElem (by rw [hlen]; exact hlt)⟩
      obtain ⟨b, o, es, rfl, hbB, hr, hs⟩ := HL.out.2 k x hx
      obtain ⟨ae, ne, ce, rfl, ge, le, me⟩ := shOp_reads.1 hs
      have hne : ne ≤ 36 := by
        have e1 := HSM.out k (by rw [hlen]; exact hlt)
        rw [opAt_get hx] at e1
        have e2 := me.1
        omega
      have hfk : f k = noughts ne := by
        rw [HF.out]
        show noughts (opAt g k).2.2.2.length = _
        rw [opAt_get hx]
        exact congrArg noughts me.1
      have HFK := Lib.hid hfk
      have hrr := rangeAt_kept hr (show b < w.heap.size from hbB) (Kept.of_below (I := Under w.heap.size) hbw fun b hb => hb)
      rw [shOp_size] at hrr
      have c0 := hrr 0 _ rfl
      have c1 := hrr 1 _ rfl
      have c2 := hrr 2 _ rfl
      have c3 := hrr 3 _ rfl
      simp only [Nat.add_zero] at c0
      have hq := (Below.refl wr.heap.size wr).alloc (Nat.le_refl _) (.cells #[.int .i64 x.1, .int .i64 x.2.1, .int .i64 x.2.2.1, .slice ae ne ce] 69 (0, 0))
      have hqn := heap_alloc_new wr (.cells #[.int .i64 x.1, .int .i64 x.2.1, .int .i64 x.2.2.1, .slice ae ne ce] 69 (0, 0))
      have hqs : (wr.alloc (.cells #[.int .i64 x.1, .int .i64 x.2.1, .int .i64 x.2.2.1, .slice ae ne ce] 69 (0, 0))).heap.size = wr.heap.size + 1 := by simp
      clear hr hrr hs hx hfk hbB hbo hbw hli
      go_upto_region 5 with fail
      generalize wr.alloc (.cells #[.int .i64 x.1, .int .i64 x.2.1, .int .i64 x.2.2.1, .slice ae ne ce] 69 (0, 0)) = w1 at hq hqn hqs ⊢
      have hbo := HBO.out.call hq
      have hli := HLI.out.below hq (Nat.le_refl _)
      have hsz4 := hbo.size
      have HB1 := Lib.hid hbo
      have HW1 := Lib.hid (HBW.out.trans (hq.mono (by omega)))
      obtain ⟨⟨d0, d1, d2⟩, f0, f1, f2⟩ := cellsG hbo.o
      have p3 : w1.cell? ⟨wr.heap.size, 3, none⟩ = some (.slice ae ne ce) := by rw [cell_of_row _ _ _ _ _ _ hqn]; rfl
      clear hq hqn hqs
      have hmk := run_make_many (P := Try.prog) 30 3 _ 1 8 Try.underlying30 Try.infoI64 ne (by omega) (by omega)
      have hm1 : Below w1.heap.size w1 (w1.alloc (.cells (madeCells #[.int .i64 0] ne) 3 (0, 0))).drew := ((Below.refl _ _).alloc (Nat.le_refl _) _).drew
      have hl2 := (hli.below hm1 (Nat.le_trans hli.top (Nat.le_refl _)) : ListL ownRow 88 (w.heap.size + 3) wr.heap.size (w1.alloc (.cells (madeCells #[.int .i64 0] ne) 3 (0, 0))).drew (.slice av k cv) (listK f k)).wide (hi' := w1.heap.size) (Nat.le_refl _) hli.top hm1.size
      obtain ⟨us, G, h1, h2, h3, h4, h5⟩ := hl2.all
      have hP : Hid (∀ (w4 : World) (g cap : Nat), w4.ownsRow (w.heap.size + 3) 88 1 (.slice (some ⟨g, 0, none⟩) (k + 1) cap) (k + 1) (us ++ [.slice (some ⟨w1.heap.size, 0, none⟩) ne ne]) → ((w1.alloc (.cells (madeCells #[.int .i64 0] ne) 3 (0, 0))).alloc (.cells #[.slice (some ⟨w1.heap.size, 0, none⟩) ne ne] 88 (0, 0))).drew.grownBy w4 (Value.slice av k cv).ownBlock →
          ((Value.slice av k cv).ownBlock = some g ∨ g = ((w1.alloc (.cells (madeCells #[.int .i64 0] ne) 3 (0, 0))).alloc (.cells #[.slice (some ⟨w1.heap.size, 0, none⟩) ne ne] 88 (0, 0))).drew.heap.size) → ListL ownRow 88 (w.heap.size + 3) w4.heap.size w4 (.slice (some ⟨g, 0, none⟩) (k + 1) cap) (listK f (k + 1)) ∧ Below (w.heap.size + 3) w1 w4) := Lib.hid fun w4 g cap ho hgr hat => by
        have hp := ListL.put (S := ownRow) (T := 88) (lo := w.heap.size + 3) (hi := w1.heap.size) (w := (w1.alloc (.cells (madeCells #[.int .i64 0] ne) 3 (0, 0))).drew) (w' := w4) (v := .slice av k cv) (v' := .slice (some ⟨g, 0, none⟩) (k + 1) cap) (xs := listK f k) (o := (.cells #[.slice (some ⟨w1.heap.size, 0, none⟩) ne ne] 88 (0, 0))) (x := noughts ne) (F := FromB w1.heap.size (w1.alloc (.cells (madeCells #[.int .i64 0] ne) 3 (0, 0))).heap.size)
          hsz4 h1 h2 hm1.size h3 h4 h5 (Row.ownRow (Row.made w1 ne (by omega))) (fun b o f => f) rfl (by rw [hkl]; exact ho) hgr (by
            rcases hat with e | e
            · exact .inl e.symm
            · exact .inr (congrArg some e))
        rw [← HFK.out] at hp
        exact ⟨hp.1, (hm1.mono hsz4).trans hp.2⟩
      rw [hkl] at h1
      have HRD : Hid (((w1.alloc (.cells (madeCells #[.int .i64 0] ne) 3 (0, 0))).alloc (.cells #[.slice (some ⟨w1.heap.size, 0, none⟩) ne ne] 88 (0, 0))).drew.ownsRow (w.heap.size + 3) 88 1 (.slice av k cv) k us) := Lib.hid (World.ownsRow.alloc (show (w1.alloc (.cells (madeCells #[.int .i64 0] ne) 3 (0, 0))).drew.ownsRow _ _ _ _ _ _ from h1) _)
      have HND : Hid (∀ j u, ([Value.slice (some ⟨w1.heap.size, 0, none⟩) ne ne] : List Value)[j]? = some u → ((w1.alloc (.cells (madeCells #[.int .i64 0] ne) 3 (0, 0))).alloc (.cells #[.slice (some ⟨w1.heap.size, 0, none⟩) ne ne] 88 (0, 0))).drew.cell? ((⟨w1.heap.size + 1, 0, none⟩ : Addr).add j) = some u) := Lib.hid (by
        have := heap_alloc_new (w1.alloc (.cells (madeCells #[.int .i64 0] ne) 3 (0, 0))) (.cells #[.slice (some ⟨w1.heap.size, 0, none⟩) ne ne] 88 (0, 0))
        rw [size_one'] at this
        exact World.news_of_block (w := ((w1.alloc (.cells (madeCells #[.int .i64 0] ne) 3 (0, 0))).alloc (.cells #[.slice (some ⟨w1.heap.size, 0, none⟩) ne ne] 88 (0, 0))).drew) this)
      have hm1' : Below w1.heap.size w1 (w1.alloc (.cells (madeCells #[.int .i64 0] ne) 3 (0, 0))) := (Below.refl _ _).alloc (Nat.le_refl _) _
      have hm2' : Below w1.heap.size w1 ((w1.alloc (.cells (madeCells #[.int .i64 0] ne) 3 (0, 0))).alloc (.cells #[.slice (some ⟨w1.heap.size, 0, none⟩) ne ne] 88 (0, 0))) := hm1'.alloc (by simp) _
      have dm0 := (hm1'.cell (p := ⟨w.heap.size + 1 + 1, 0, none⟩) (by show w.heap.size + 1 + 1 < _; omega)).trans d0
      have de0 := (hm2'.cell (p := ⟨w.heap.size + 1 + 1, 0, none⟩) (by show w.heap.size + 1 + 1 < _; omega)).trans d0
      have HBS : Hid (w.heap.size + 3 ≤ ((w1.alloc (.cells (madeCells #[.int .i64 0] ne) 3 (0, 0))).alloc (.cells #[.slice (some ⟨w1.heap.size, 0, none⟩) ne ne] 88 (0, 0))).drew.heap.size) := Lib.hid (by
        show _ ≤ ((w1.alloc (.cells (madeCells #[.int .i64 0] ne) 3 (0, 0))).alloc (.cells #[.slice (some ⟨w1.heap.size, 0, none⟩) ne ne] 88 (0, 0))).heap.size
        rw [size_one', size_one']
        omega)
      clear h1 h2 h3 h4 h5 hl2 hli hbo hm1 hm1' hm2' f1 f2
      go_wp2_with fail
      go_region_law (first
        | (refine step_append_lies _ rfl (.tmp 15) (.tmp 21) 29 rfl (w.heap.size + 3) 88 i0 (.agg #[.slice none 0 0]) 1 24 Try.underlying29 hi hz0 hz1 hz2 rfl (by decide) _ _ _ (by simp [Act.eval]) HRD.out ⟨w1.heap.size + 1, 0, none⟩ 1 1 [.slice (some ⟨w1.heap.size, 0, none⟩) ne ne] (by simp [Act.eval]) rfl HND.out (slices_one _ _ _) (by omega) (by unfold maxLen; omega) (by omega) HBS.out _ rfl ?_; intro g cap w4 hown4 hgrow4 hat4 _; obtain ⟨hli4, hb4⟩ := hP.out w4 g cap hown4 hgrow4 hat4; have hbo4 := HB1.out.far hb4; have HW4 := Lib.hid (HW1.out.trans (hb4.mono (by omega))); clear d0 d1 d2 f0 dm0 de0 hown4 hgrow4 hat4; obtain ⟨⟨d0, d1, d2⟩, f0, -, -⟩ := cellsG hbo4.o; have HLI4 := Lib.hid hli4; have HBO4 := Lib.hid hbo4; clear hli4 hbo4 hb4))
      all_goals
        go_wp2_with fail
        go_round
        case rel =>
          have hq := HBO4.out.store 0 (.slice (some ⟨g, 0, none⟩) (k + 1) cap)
          have hli := HLI4.out.stored (w.heap.size + 1 + 1) 0 (.slice (some ⟨g, 0, none⟩) (k + 1) cap) (by omega)
          exact ⟨k + 1, .slice (some ⟨g, 0, none⟩) (k + 1) cap, by omega, by go_num, by simpa using hq, by simpa using HW4.out.setCell (p := ⟨w.heap.size + 1 + 1, 0, none⟩) (by show _ ≤ w.heap.size + 1 + 1; omega) (.slice (some ⟨g, 0, none⟩) (k + 1) cap), by simpa using hli⟩
        case measure => simp [intOf]; omega
    · obtain rfl : k = ng := by omega
      obtain ⟨⟨d0, d1, d2⟩, f0, f1, f2⟩ := cellsG hbo.o
      obtain ⟨⟨z0, z1, z2⟩, y0, y1, y2⟩ := cellsG hbo.z
      clear hbo hli hbw
      go_wp2_with fail
      refine bodyPost_ret (results_cell_row rfl _ _ (w.heap.size + 1) 32 #[.slice av k cv, .int .i64 0, .bool false] (0, 0) _ rfl ?_ Try.underlying32 rfl (by kernel_rfl)) rfl ?_
      · exact store3 HBO.out.z _ _ _
      · refine ⟨[.slice av k cv, .int .i64 0, .bool false], rfl, ?_, ((HBO.out.below.setCell (p := ⟨w.heap.size + 1, 0, none⟩) (by show _ ≤ w.heap.size + 1; omega) _).setCell (p := ⟨w.heap.size + 1, 1, none⟩) (by show _ ≤ w.heap.size + 1; omega) _).setCell (p := ⟨w.heap.size + 1, 2, none⟩) (by show _ ≤ w.heap.size + 1; omega) _⟩
        have hfin := ((HLI.out.stored (w.heap.size + 1) 0 (.slice av k cv) (by omega)).stored (w.heap.size + 1) 1 (.int .i64 0) (by omega)).stored (w.heap.size + 1) 2 (.bool false) (by omega)
        obtain ⟨a', cap, e1, e2, e3, e4⟩ := hfin.list (by decide)
        rw [hkl] at e1 e2 e4
        cases e1
        unfold zeroG
        rw [HZ.out, hlen]
        exact ownGrads_owns.2 ⟨_, _, _, rfl, e2, e3, e4.sub (fun b o f => ⟨by have := f.1; omega, by have := f.2; simpa using this⟩)⟩
end Go.Proofs.Ytpnifgpmleaohaa

end

/-! YtpnifgpmleaohaaStgT -/
section

namespace Go.Proofs.Ytpnifgpmleaohaa
open Go.RowKit Go.Sort
set_option linter.unusedVariables false
set_option linter.unusedSimpArgs false

theorem ownStage_zero (w : World) : ownStage.owns (fun _ _ => False) w zeroC.toList zeroStage := by
  have hn : ∀ {α : Type} (S : Owned α), OwnList S (fun _ _ => False) w none 0 [] := fun S => ⟨rfl, .inl rfl⟩
  refine ownStage_owns.2 ⟨none, 0, 0, none, 0, 0, none, 0, 0, none, 0, 0, none, 0, 0, none, 0, 0, none, 0, 0, none, 0, 0, none, 0, 0, fun _ _ => False, fun _ _ => False, fun _ _ => False, fun _ _ => False, fun _ _ => False, fun _ _ => False, fun _ _ => False, fun _ _ => False, fun _ _ => False, rfl,
    ⟨Nat.le_refl _, by omega, hn _⟩, ⟨Nat.le_refl _, by omega, hn _⟩, ⟨Nat.le_refl _, by omega, hn _⟩, ⟨Nat.le_refl _, by omega, hn _⟩, ⟨Nat.le_refl _, by omega, hn _⟩, ⟨Nat.le_refl _, by omega, hn _⟩, ⟨Nat.le_refl _, by omega, hn _⟩, ⟨Nat.le_refl _, by omega, hn _⟩, ⟨Nat.le_refl _, by omega, hn _⟩,
    fun b o f => f, fun b o f => f, fun b o f => f, fun b o f => f, fun b o f => f, fun b o f => f, fun b o f => f, fun b o f => f, fun b o f => f, ?_⟩
  refine ⟨?_, ?_, ?_, ?_, ?_, ?_, ?_, ?_, ?_, ?_, ?_, ?_, ?_, ?_, ?_, ?_, ?_, ?_, ?_, ?_, ?_, ?_, ?_, ?_, ?_, ?_, ?_, ?_, ?_, ?_, ?_, ?_, ?_, ?_, ?_, ?_⟩ <;> exact fun b o f => f.elim
set_option maxRecDepth 100000 in
set_option maxHeartbeats 6400000 in
theorem implStageNew_o (w : World) (a0 : Option Addr) (n0 c0 : Nat) (ops : List dOp) (h0 : ListAt shOp (Under w.heap.size) w a0 n0 ops) (p0 : n0 ≤ c0) (q0 : c0 ≤ 9223372036854775807) (hb0 : (Shape.list shOp).bulk ops ≤ 1048576)
    (a1 : Option Addr) (n1 c1 : Nat) (plan : List dIns) (h1 : ListAt shIns (Under w.heap.size) w a1 n1 plan) (p1 : n1 ≤ c1) (q1 : c1 ≤ 9223372036854775807) (hb1 : (Shape.list shIns).bulk plan ≤ 1048576) (last redo : Bool) :
    Calls Try.prog 12 #[.slice a0 n0 c0, .slice a1 n1 c1, .bool last, .bool redo] w fun e w' => ∃ es', e = .returned (.agg (es' : List Value).toArray) ∧ ownStage.owns (FromB w.heap.size w'.heap.size) w' es' (newN ops plan last redo) ∧ Below w.heap.size w w' := by
  have h2 : ((w.alloc (.cells zeroC 34 (0, 0))).alloc (.cells #[.slice a0 n0 c0] 65 (0, 0))).heap.size = w.heap.size + 2 := by simp
  have hz : ((w.alloc (.cells zeroC 34 (0, 0))).alloc (.cells #[.slice a0 n0 c0] 65 (0, 0))).heap[w.heap.size]? = some (.cells zeroC 34 (0, 0)) := by
    rw [Below.heap_alloc _ _ _ (by simp)]
    exact heap_alloc_new w _
  have hm : ((w.alloc (.cells zeroC 34 (0, 0))).alloc (.cells #[.slice a0 n0 c0] 65 (0, 0))).heap[w.heap.size + 1]? = some (.cells #[.slice a0 n0 c0] 65 (0, 0)) := by
    have := heap_alloc_new (w.alloc (.cells zeroC 34 (0, 0))) (.cells #[.slice a0 n0 c0] 65 (0, 0))
    rwa [World.size_alloc] at this
  have hal : Below w.heap.size w ((w.alloc (.cells zeroC 34 (0, 0))).alloc (.cells #[.slice a0 n0 c0] 65 (0, 0))) := ((Below.refl _ _).alloc (Nat.le_refl _) _).alloc (by simp) _
  have HM := Lib.hid fun (wx : World) (hx : Below w.heap.size w wx) => (show shModel.reads (Under wx.heap.size) wx [.slice a0 n0 c0] ops from shModel_reads.2 ⟨_, _, _, rfl, p0, q0, (h0.below hx (Nat.le_refl _)).le hx.size⟩)
  have HO := Lib.hid fun (wx : World) (hx : Below w.heap.size w wx) => (h0.below hx (Nat.le_refl _)).le hx.size
  have HP := Lib.hid fun (wx : World) (hx : Below w.heap.size w wx) => (h1.below hx (Nat.le_refl _)).le hx.size
  have hmb : shModel.bulk ops ≤ 1048576 := by rw [shModel_bulk]; exact hb0
  have HMB := Lib.hid hmb
  have HB0 := Lib.hid hb0
  have HB1 := Lib.hid hb1
  have HZ := Lib.hid hz
  have HMM := Lib.hid hm
  have HA := Lib.hid hal
  have HS := Lib.hid h2
  obtain ⟨p, hp⟩ : ∃ p, modelOkB ops = p := ⟨_, rfl⟩
  obtain ⟨D, hD⟩ : ∃ D, newN ops plan last redo = D := ⟨_, rfl⟩
  rw [hD]
  have hnew : D = if p = true then (0, plan, ops, last, redo, [], [], [], [], [], [], zeroG ops) else zeroStage := by rw [← hD]; unfold newN; rw [hp]
  have HNEW := Lib.hid hnew
  have HPP := Lib.hid hp
  clear h0 h1 hb0 hb1 hz hm hal h2 hmb hp hnew hD
  go_enter Try.func12, Try.ntmps12
  go_upto_region 2 with fail
  generalize (w.alloc (.cells zeroC 34 (0, 0))).alloc (.cells #[.slice a0 n0 c0] 65 (0, 0)) = W0 at HZ HMM HA HS ⊢
  have hOK := implModelOk_d W0 [.slice a0 n0 c0] ops (HM.out W0 HA.out) HMB.out
  rw [HPP.out] at hOK
  have HOK := Lib.hid hOK
  clear hOK
  have z0 := box14 HMM.out 0 _ rfl
  cases p
  · obtain rfl : D = zeroStage := HNEW.out
    go_wp2_with fail
    refine HOK.out.mono ?_
    rintro e w1 ⟨rfl, hb⟩
    have hsz := HS.out
    have hk := (hb.block w.heap.size (by omega)).trans HZ.out
    have q0 := box14 hk 0 _ rfl
    have f0 : w1.frozen? ⟨w.heap.size, 0, none⟩ = false := frozen_of_row _ _ _ _ _ hk
    have q1 := box14 hk 1 _ rfl
    have f1 : w1.frozen? ⟨w.heap.size, 1, none⟩ = false := frozen_of_row _ _ _ _ _ hk
    have q2 := box14 hk 2 _ rfl
    have f2 : w1.frozen? ⟨w.heap.size, 2, none⟩ = false := frozen_of_row _ _ _ _ _ hk
    have q3 := box14 hk 3 _ rfl
    have f3 : w1.frozen? ⟨w.heap.size, 3, none⟩ = false := frozen_of_row _ _ _ _ _ hk
    have q4 := box14 hk 4 _ rfl
    have f4 : w1.frozen? ⟨w.heap.size, 4, none⟩ = false := frozen_of_row _ _ _ _ _ hk
    have q5 := box14 hk 5 _ rfl
    have f5 : w1.frozen? ⟨w.heap.size, 5, none⟩ = false := frozen_of_row _ _ _ _ _ hk
    have q6 := box14 hk 6 _ rfl
    have f6 : w1.frozen? ⟨w.heap.size, 6, none⟩ = false := frozen_of_row _ _ _ _ _ hk
    have q7 := box14 hk 7 _ rfl
    have f7 : w1.frozen? ⟨w.heap.size, 7, none⟩ = false := frozen_of_row _ _ _ _ _ hk
    have q8 := box14 hk 8 _ rfl
    have f8 : w1.frozen? ⟨w.heap.size, 8, none⟩ = false := frozen_of_row _ _ _ _ _ hk
    have q9 := box14 hk 9 _ rfl
    have f9 : w1.frozen? ⟨w.heap.size, 9, none⟩ = false := frozen_of_row _ _ _ _ _ hk
    have q10 := box14 hk 10 _ rfl
    have f10 : w1.frozen? ⟨w.heap.size, 10, none⟩ = false := frozen_of_row _ _ _ _ _ hk
    have q11 := box14 hk 11 _ rfl
    have f11 : w1.frozen? ⟨w.heap.size, 11, none⟩ = false := frozen_of_row _ _ _ _ _ hk
    have q12 := box14 hk 12 _ rfl
    have f12 : w1.frozen? ⟨w.heap.size, 12, none⟩ = false := frozen_of_row _ _ _ _ _ hk
    have q13 := box14 hk 13 _ rfl
    have f13 : w1.frozen? ⟨w.heap.size, 13, none⟩ = false := frozen_of_row _ _ _ _ _ hk
    have hend := stage_boxed hk (.int .i64 0) (.slice none 0 0) (.slice none 0 0) (.bool false) (.bool false) (.slice none 0 0) (.slice none 0 0) (.slice none 0 0) (.slice none 0 0) (.slice none 0 0) (.slice none 0 0) (.slice none 0 0) (.int .i64 0) (.bool false)
    have HE := Lib.hid hend.1
    have HW := Lib.hid (hend.2.2.2 w.heap.size w (Nat.le_refl _) (HA.out.trans (hb.mono HA.out.size)))
    clear hend hk hb z0
    go_wp2_with fail
    refine bodyPost_ret (results_cell_row rfl _ _ w.heap.size 34 zeroC (0, 0) _ rfl HE.out Try.underlying34 rfl (by kernel_rfl)) rfl ?_
    exact ⟨zeroC.toList, rfl, ownStage.owns_sub (ownStage_zero _) (fun b o f => f.elim), HW.out⟩
  · obtain rfl : D = (0, plan, ops, last, redo, [], [], [], [], [], [], zeroG ops) := HNEW.out
    go_wp2_with fail
    refine HOK.out.mono ?_
    rintro e w1 ⟨rfl, hb⟩
    have hsz := HS.out
    have HB1' := Lib.hid (HA.out.trans (hb.mono HA.out.size))
    have HZ1 := Lib.hid ((hb.block w.heap.size (by omega)).trans HZ.out)
    have HM1 := Lib.hid ((hb.block (w.heap.size + 1) (by omega)).trans HMM.out)
    have HS1 := Lib.hid (Nat.le_trans (Nat.le_of_eq HS.out.symm) hb.size)
    clear hb z0
    have y0 := box14 HM1.out 0 _ rfl
    go_wp2_with fail
    refine (implZeroGrads_o w1 [.slice a0 n0 c0] ops (HM.out w1 HB1'.out) HMB.out).mono ?_
    rintro e w2 ⟨es2, rfl, hown, hb⟩
    obtain ⟨a8, n8, c8, rfl, r8, s8, l8⟩ := ownGrads_owns.1 hown
    have hs2 := hb.size
    have HB2 := Lib.hid (HB1'.out.trans (hb.mono HB1'.out.size))
    have hs1 := HS1.out
    have HZ2 := Lib.hid ((hb.block w.heap.size (by omega)).trans HZ1.out)
    have hl8 : ListAt shRow (Under w2.heap.size) w2 a8 n8 (zeroG ops).1 := l8.listAt (fun b o f => f.2) (by decide)
    have hrd : shStage.reads (Under w2.heap.size) w2 [.int .i64 0, .slice a1 n1 c1, .slice a0 n0 c0, .bool last, .bool redo, .slice none 0 0, .slice none 0 0, .slice none 0 0, .slice none 0 0, .slice none 0 0, .slice none 0 0, .slice a8 n8 c8, .int .i64 (zeroG ops).2.1, .bool (zeroG ops).2.2] ((0, plan, ops, last, redo, [], [], [], [], [], [], zeroG ops) : dStage) :=
      shStage_reads.2 ⟨a1, n1, c1, a0, n0, c0, none, 0, 0, none, 0, 0, none, 0, 0, none, 0, 0, none, 0, 0, none, 0, 0, a8, n8, c8, rfl, ⟨p1, q1, HP.out w2 HB2.out⟩, ⟨p0, q0, HO.out w2 HB2.out⟩, ⟨Nat.le_refl _, by omega, noList _ _⟩, ⟨Nat.le_refl _, by omega, noList _ _⟩, ⟨Nat.le_refl _, by omega, noList _ _⟩, ⟨Nat.le_refl _, by omega, noList _ _⟩, ⟨Nat.le_refl _, by omega, noList _ _⟩, ⟨Nat.le_refl _, by omega, noList _ _⟩, ⟨r8, s8, hl8⟩⟩
    have hzb := zero_bulk ops
    rw [shGrads_bulk] at hzb
    have hsm : smallStage ((0, plan, ops, last, redo, [], [], [], [], [], [], zeroG ops) : dStage) := ⟨HB1.out, HB0.out, looseSavedS_of (by show (0 : Nat) + 0 ≤ _; omega), by show (0 : Nat) + 0 ≤ _; omega, by show (0 : Nat) + 0 ≤ _; omega, by show (0 : Nat) + 0 ≤ _; omega, by show (0 : Nat) + 0 ≤ _; omega, by show (0 : Nat) + 0 ≤ _; omega, hzb⟩
    have HCP := Lib.hid (implCopy_o w2 _ _ hrd hsm (by show (0 : Nat) ≤ _; omega))
    clear hown l8 hl8 hrd hzb hsm hb y0
    go_wp2_with fail
    refine HCP.out.mono ?_
    rintro e w3 ⟨v1, v2, v5, v6, v7, v8, v9, v10, v11, cc, rfl, hb, hc0, hc9, hnine⟩
    have hown := hnine.own (lo := w2.heap.size) (hi := w3.heap.size) hc0 hc9
    obtain ⟨x1, m1, d1, rfl⟩ := hnine.o1.form
    obtain ⟨x2, m2, d2, rfl⟩ := hnine.o2.form
    obtain ⟨x5, d5, e5, -, -⟩ := hnine.o5.form
    obtain ⟨m5, hm5⟩ : ∃ q, (stashS ((0, plan, ops, last, redo, [], [], [], [], [], [], zeroG ops) : dStage)).length = q := ⟨_, rfl⟩
    rw [hm5] at e5
    subst e5
    obtain ⟨x6, m6, d6, rfl⟩ := hnine.o6.form
    obtain ⟨x7, m7, d7, rfl⟩ := hnine.o7.form
    obtain ⟨x8, m8, d8, rfl⟩ := hnine.o8.form
    obtain ⟨x9, m9, d9, rfl⟩ := hnine.o9.form
    obtain ⟨x10, m10, d10, rfl⟩ := hnine.o10.form
    obtain ⟨x11, m11, d11, rfl⟩ := hnine.o11.form
    have hk := (hb.block w.heap.size (by omega)).trans HZ2.out
    have q0 := box14 hk 0 _ rfl
    have f0 : w3.frozen? ⟨w.heap.size, 0, none⟩ = false := frozen_of_row _ _ _ _ _ hk
    have q1 := box14 hk 1 _ rfl
    have f1 : w3.frozen? ⟨w.heap.size, 1, none⟩ = false := frozen_of_row _ _ _ _ _ hk
    have q2 := box14 hk 2 _ rfl
    have f2 : w3.frozen? ⟨w.heap.size, 2, none⟩ = false := frozen_of_row _ _ _ _ _ hk
    have q3 := box14 hk 3 _ rfl
    have f3 : w3.frozen? ⟨w.heap.size, 3, none⟩ = false := frozen_of_row _ _ _ _ _ hk
    have q4 := box14 hk 4 _ rfl
    have f4 : w3.frozen? ⟨w.heap.size, 4, none⟩ = false := frozen_of_row _ _ _ _ _ hk
    have q5 := box14 hk 5 _ rfl
    have f5 : w3.frozen? ⟨w.heap.size, 5, none⟩ = false := frozen_of_row _ _ _ _ _ hk
    have q6 := box14 hk 6 _ rfl
    have f6 : w3.frozen? ⟨w.heap.size, 6, none⟩ = false := frozen_of_row _ _ _ _ _ hk
    have q7 := box14 hk 7 _ rfl
    have f7 : w3.frozen? ⟨w.heap.size, 7, none⟩ = false := frozen_of_row _ _ _ _ _ hk
    have q8 := box14 hk 8 _ rfl
    have f8 : w3.frozen? ⟨w.heap.size, 8, none⟩ = false := frozen_of_row _ _ _ _ _ hk
    have q9 := box14 hk 9 _ rfl
    have f9 : w3.frozen? ⟨w.heap.size, 9, none⟩ = false := frozen_of_row _ _ _ _ _ hk
    have q10 := box14 hk 10 _ rfl
    have f10 : w3.frozen? ⟨w.heap.size, 10, none⟩ = false := frozen_of_row _ _ _ _ _ hk
    have q11 := box14 hk 11 _ rfl
    have f11 : w3.frozen? ⟨w.heap.size, 11, none⟩ = false := frozen_of_row _ _ _ _ _ hk
    have q12 := box14 hk 12 _ rfl
    have f12 : w3.frozen? ⟨w.heap.size, 12, none⟩ = false := frozen_of_row _ _ _ _ _ hk
    have q13 := box14 hk 13 _ rfl
    have f13 : w3.frozen? ⟨w.heap.size, 13, none⟩ = false := frozen_of_row _ _ _ _ _ hk
    have hend := stage_boxed hk (.int .i64 0) (.slice x1 m1 d1) (.slice x2 m2 d2) (.bool last) (.bool redo) (.slice x5 m5 d5) (.slice x6 m6 d6) (.slice x7 m7 d7) (.slice x8 m8 d8) (.slice x9 m9 d9) (.slice x10 m10 d10) (.slice x11 m11 d11) (.int .i64 (zeroG ops).2.1) (.bool (zeroG ops).2.2)
    have HE := Lib.hid hend.1
    have HW := Lib.hid (hend.2.2.2 w.heap.size w (Nat.le_refl _) (HB2.out.trans (hb.mono HB2.out.size)))
    have hsame : SameAt (FromB w2.heap.size w3.heap.size) w3 _ := fun b o f => by
      have e := hend.2.2.1 b (by have := f.1; omega)
      exact ⟨World.cell?_of_block (a := ⟨b, o, none⟩) e, World.frozen?_of_block (a := ⟨b, o, none⟩) e⟩
    have hfin := ownStage.owns_keep hown hsame
    have hszE := hend.2.1
    have HF := Lib.hid hfin
    have HSE := Lib.hid hszE
    clear hend hk hb hown hnine hsame hfin hszE hc0 hc9 hm5
    go_wp2_with fail
    refine bodyPost_ret (results_cell_row rfl _ _ w.heap.size 34 #[.int .i64 0, .slice x1 m1 d1, .slice x2 m2 d2, .bool last, .bool redo, .slice x5 m5 d5, .slice x6 m6 d6, .slice x7 m7 d7, .slice x8 m8 d8, .slice x9 m9 d9, .slice x10 m10 d10, .slice x11 m11 d11, .int .i64 (zeroG ops).2.1, .bool (zeroG ops).2.2] (0, 0) _ rfl HE.out Try.underlying34 rfl (by kernel_rfl)) rfl ?_
    exact ⟨[.int .i64 0, .slice x1 m1 d1, .slice x2 m2 d2, .bool last, .bool redo, .slice x5 m5 d5, .slice x6 m6 d6, .slice x7 m7 d7, .slice x8 m8 d8, .slice x9 m9 d9, .slice x10 m10 d10, .slice x11 m11 d11, .int .i64 (zeroG ops).2.1, .bool (zeroG ops).2.2], rfl, ownStage.owns_sub HF.out (fun b o f => ⟨by have := f.1; omega, Nat.lt_of_lt_of_le f.2 (Nat.le_of_eq HSE.out.symm)⟩), HW.out⟩
end Go.Proofs.Ytpnifgpmleaohaa

end

/-! YtpnifgpmleaohaaBoxed -/
section

namespace Go.Proofs.Ytpnifgpmleaohaa
open Go.RowKit
set_option linter.unusedVariables false
set_option linter.unusedSimpArgs false

/-- A box that was laid behind W. -/
def BoxIn (W w : World) (g : Nat) (o : Obj) : Prop := w.heap[g]? = some o ∧ W.heap.size ≤ g ∧ g < w.heap.size
theorem BoxIn.call {W w w' : World} {g : Nat} {o : Obj} (h : BoxIn W w g o) (hb : Below w.heap.size w w') : BoxIn W w' g o :=
  ⟨(hb.block g h.2.2).trans h.1, h.2.1, Nat.lt_of_lt_of_le h.2.2 hb.size⟩
theorem BoxIn.new {W w : World} (h : Below W.heap.size W w) (o : Obj) : BoxIn W (w.alloc o) w.heap.size o :=
  ⟨heap_alloc_new w o, h.size, by simp⟩
theorem BoxIn.drew {W w : World} {g : Nat} {o : Obj} (h : BoxIn W w g o) : BoxIn W w.drew g o := h
/-- What came out lies in its box, and reads. -/
def BoxedR {α : Type} (S : Shape α) (T : TypeId) (W wx : World) (t : Value) (v : α) : Prop :=
  ∃ g es, t = .pointer (some ⟨g, 0, none⟩) ∧ wx.heap[g]? = some (.cells es.toArray T (0, 0)) ∧ S.reads (Under wx.heap.size) wx es v ∧ W.heap.size ≤ g ∧ g < wx.heap.size ∧ Below W.heap.size W wx
theorem BoxedR.last {α : Type} {S : Shape α} {T : TypeId} {W w : World} {lo : Nat} {es : List Value} {v : α} (hB : Below W.heap.size W w) (hr : S.reads (From lo w.heap.size) w es v) :
    BoxedR S T W (w.alloc (.cells es.toArray T (0, 0))) (.pointer (some ⟨w.heap.size, 0, none⟩)) v := by
  have ha := (Below.refl w.heap.size w).alloc (Nat.le_refl _) (.cells es.toArray T (0, 0))
  exact ⟨_, es, rfl, heap_alloc_new w _, S.le (S.below (S.under hr) ha (Nat.le_refl _)) ha.size, hB.size, by simp, hB.trans (ha.mono hB.size)⟩
theorem BoxedR.early {α : Type} {S : Shape α} {T : TypeId} {W w : World} {lo g : Nat} {Z : Array Value} {es : List Value} {v : α} (hB : Below W.heap.size W w) (hr : S.reads (From lo w.heap.size) w es v)
    (hx : BoxIn W w g (.cells Z T (0, 0))) (hg : g < lo) (hz : Z.size = es.length) : BoxedR S T W (w.setCells g 0 es) (.pointer (some ⟨g, 0, none⟩)) v := by
  have hs := size_setCells g es 0 w
  have hT : Touched (fun b _ => b = g) w (w.setCells g 0 es) := touched_setCells _ _ _ _ fun _ _ => rfl
  refine ⟨g, es, rfl, ?_, ?_, hx.2.1, by rw [hs]; exact hx.2.2, below_setCells g hx.2.1 _ _ _ hB⟩
  · have := heap_setCells_all g T es [] Z.toList w (by simpa using hz) (by simpa using hx.1)
    simpa using this
  · rw [hs]
    exact S.under (S.keep hr fun b hb => hT.block b fun _ e => by
      have e' : b = g := e
      have := hb.1
      omega)
theorem BoxedR.early1 {α : Type} {S : Shape α} {T : TypeId} {W w : World} {lo g : Nat} {v0 z0 : Value} {v : α} (hB : Below W.heap.size W w) (hr : S.reads (From lo w.heap.size) w [v0] v)
    (hx : BoxIn W w g (.cells #[z0] T (0, 0))) (hg : g < lo) : BoxedR S T W (w.setCell ⟨g, 0, none⟩ v0) (.pointer (some ⟨g, 0, none⟩)) v := by
  have h := BoxedR.early hB hr hx hg rfl
  simp only [World.setCells, Nat.zero_add, Nat.reduceAdd] at h
  exact h
theorem BoxedR.early2 {α : Type} {S : Shape α} {T : TypeId} {W w : World} {lo g : Nat} {v0 v1 z0 z1 : Value} {v : α} (hB : Below W.heap.size W w) (hr : S.reads (From lo w.heap.size) w [v0, v1] v)
    (hx : BoxIn W w g (.cells #[z0, z1] T (0, 0))) (hg : g < lo) : BoxedR S T W ((w.setCell ⟨g, 0, none⟩ v0).setCell ⟨g, 1, none⟩ v1) (.pointer (some ⟨g, 0, none⟩)) v := by
  have h := BoxedR.early hB hr hx hg rfl
  simp only [World.setCells, Nat.zero_add, Nat.reduceAdd] at h
  exact h
theorem BoxedR.early3 {α : Type} {S : Shape α} {T : TypeId} {W w : World} {lo g : Nat} {v0 v1 v2 z0 z1 z2 : Value} {v : α} (hB : Below W.heap.size W w) (hr : S.reads (From lo w.heap.size) w [v0, v1, v2] v)
    (hx : BoxIn W w g (.cells #[z0, z1, z2] T (0, 0))) (hg : g < lo) : BoxedR S T W (((w.setCell ⟨g, 0, none⟩ v0).setCell ⟨g, 1, none⟩ v1).setCell ⟨g, 2, none⟩ v2) (.pointer (some ⟨g, 0, none⟩)) v := by
  have h := BoxedR.early hB hr hx hg rfl
  simp only [World.setCells, Nat.zero_add, Nat.reduceAdd] at h
  exact h
theorem BoxedR.early4 {α : Type} {S : Shape α} {T : TypeId} {W w : World} {lo g : Nat} {v0 v1 v2 v3 z0 z1 z2 z3 : Value} {v : α} (hB : Below W.heap.size W w) (hr : S.reads (From lo w.heap.size) w [v0, v1, v2, v3] v)
    (hx : BoxIn W w g (.cells #[z0, z1, z2, z3] T (0, 0))) (hg : g < lo) : BoxedR S T W ((((w.setCell ⟨g, 0, none⟩ v0).setCell ⟨g, 1, none⟩ v1).setCell ⟨g, 2, none⟩ v2).setCell ⟨g, 3, none⟩ v3) (.pointer (some ⟨g, 0, none⟩)) v := by
  have h := BoxedR.early hB hr hx hg rfl
  simp only [World.setCells, Nat.zero_add, Nat.reduceAdd] at h
  exact h
theorem BoxedR.early5 {α : Type} {S : Shape α} {T : TypeId} {W w : World} {lo g : Nat} {v0 v1 v2 v3 v4 z0 z1 z2 z3 z4 : Value} {v : α} (hB : Below W.heap.size W w) (hr : S.reads (From lo w.heap.size) w [v0, v1, v2, v3, v4] v)
    (hx : BoxIn W w g (.cells #[z0, z1, z2, z3, z4] T (0, 0))) (hg : g < lo) : BoxedR S T W (((((w.setCell ⟨g, 0, none⟩ v0).setCell ⟨g, 1, none⟩ v1).setCell ⟨g, 2, none⟩ v2).setCell ⟨g, 3, none⟩ v3).setCell ⟨g, 4, none⟩ v4) (.pointer (some ⟨g, 0, none⟩)) v := by
  have h := BoxedR.early hB hr hx hg rfl
  simp only [World.setCells, Nat.zero_add, Nat.reduceAdd] at h
  exact h
theorem BoxedR.early6 {α : Type} {S : Shape α} {T : TypeId} {W w : World} {lo g : Nat} {v0 v1 v2 v3 v4 v5 z0 z1 z2 z3 z4 z5 : Value} {v : α} (hB : Below W.heap.size W w) (hr : S.reads (From lo w.heap.size) w [v0, v1, v2, v3, v4, v5] v)
    (hx : BoxIn W w g (.cells #[z0, z1, z2, z3, z4, z5] T (0, 0))) (hg : g < lo) : BoxedR S T W ((((((w.setCell ⟨g, 0, none⟩ v0).setCell ⟨g, 1, none⟩ v1).setCell ⟨g, 2, none⟩ v2).setCell ⟨g, 3, none⟩ v3).setCell ⟨g, 4, none⟩ v4).setCell ⟨g, 5, none⟩ v5) (.pointer (some ⟨g, 0, none⟩)) v := by
  have h := BoxedR.early hB hr hx hg rfl
  simp only [World.setCells, Nat.zero_add, Nat.reduceAdd] at h
  exact h
theorem BoxedR.early7 {α : Type} {S : Shape α} {T : TypeId} {W w : World} {lo g : Nat} {v0 v1 v2 v3 v4 v5 v6 z0 z1 z2 z3 z4 z5 z6 : Value} {v : α} (hB : Below W.heap.size W w) (hr : S.reads (From lo w.heap.size) w [v0, v1, v2, v3, v4, v5, v6] v)
    (hx : BoxIn W w g (.cells #[z0, z1, z2, z3, z4, z5, z6] T (0, 0))) (hg : g < lo) : BoxedR S T W (((((((w.setCell ⟨g, 0, none⟩ v0).setCell ⟨g, 1, none⟩ v1).setCell ⟨g, 2, none⟩ v2).setCell ⟨g, 3, none⟩ v3).setCell ⟨g, 4, none⟩ v4).setCell ⟨g, 5, none⟩ v5).setCell ⟨g, 6, none⟩ v6) (.pointer (some ⟨g, 0, none⟩)) v := by
  have h := BoxedR.early hB hr hx hg rfl
  simp only [World.setCells, Nat.zero_add, Nat.reduceAdd] at h
  exact h
theorem BoxedR.early8 {α : Type} {S : Shape α} {T : TypeId} {W w : World} {lo g : Nat} {v0 v1 v2 v3 v4 v5 v6 v7 z0 z1 z2 z3 z4 z5 z6 z7 : Value} {v : α} (hB : Below W.heap.size W w) (hr : S.reads (From lo w.heap.size) w [v0, v1, v2, v3, v4, v5, v6, v7] v)
    (hx : BoxIn W w g (.cells #[z0, z1, z2, z3, z4, z5, z6, z7] T (0, 0))) (hg : g < lo) : BoxedR S T W ((((((((w.setCell ⟨g, 0, none⟩ v0).setCell ⟨g, 1, none⟩ v1).setCell ⟨g, 2, none⟩ v2).setCell ⟨g, 3, none⟩ v3).setCell ⟨g, 4, none⟩ v4).setCell ⟨g, 5, none⟩ v5).setCell ⟨g, 6, none⟩ v6).setCell ⟨g, 7, none⟩ v7) (.pointer (some ⟨g, 0, none⟩)) v := by
  have h := BoxedR.early hB hr hx hg rfl
  simp only [World.setCells, Nat.zero_add, Nat.reduceAdd] at h
  exact h
end Go.Proofs.Ytpnifgpmleaohaa

end

/-! YtpnifgpmleaohaaStgOX -/
section

namespace Go.Proofs.Ytpnifgpmleaohaa
open Go.RowKit
set_option linter.unusedVariables false
set_option linter.unusedSimpArgs false

set_option maxRecDepth 100000 in
set_option maxHeartbeats 12800000 in
theorem lawStageNew_any (w : World) (a0 : Option Addr) (n0 c0 : Nat) (x0 : List dOp) (h0 : ListAt shOp (Under w.heap.size) w a0 n0 x0) (m0 : n0 ≤ 9223372036854775807) (a1 : Option Addr) (n1 c1 : Nat) (x1 : List dIns) (h1 : ListAt shIns (Under w.heap.size) w a1 n1 x1) (m1 : n1 ≤ 9223372036854775807) (a2 : Bool) (a3 : Bool) :
    Calls Try.prog 3 #[(.slice a0 n0 c0), (.slice a1 n1 c1), (.bool a2), (.bool a3)] w fun e w' => e = .returned (.bool true) ∧ Below w.heap.size w w' := by
  obtain ⟨u0, hu0⟩ : ∃ u, (Shape.list shOp).bulk x0 = u := ⟨_, rfl⟩
  obtain ⟨k0, hk0⟩ : ∃ k, (Shape.sum ownOp.ct x0) = k := ⟨_, rfl⟩
  have K0 := Lib.hid hk0
  have fw0 : k0 ≤ 16 * u0 := by rw [← hk0, ← hu0]; exact few_OpS x0
  have U0 := Lib.hid hu0
  have F0 := Lib.hid h0
  obtain ⟨u1, hu1⟩ : ∃ u, (Shape.list shIns).bulk x1 = u := ⟨_, rfl⟩
  obtain ⟨k1, hk1⟩ : ∃ k, (Shape.sum ownIns.ct x1) = k := ⟨_, rfl⟩
  have K1 := Lib.hid hk1
  have fw1 : k1 ≤ 16 * u1 := by rw [← hk1, ← hu1]; exact few_InsS x1
  have U1 := Lib.hid hu1
  have F1 := Lib.hid h1
  have T := Lib.hid (Below.refl w.heap.size w)
  clear hu0 hk0 h0 hu1 hk1 h1
  by_cases f0 : ((u0 : Nat) : Int) ≤ 1048576
  · skip
    by_cases f1 : ((u0 + u1 : Nat) : Int) ≤ 1048576
    · go_enter Try.func3, Try.ntmps3
      go_wp2_with fail
      have hc := szOpS_c _ _ a0 n0 c0 x0 (1048576) F0.out (by omega) m0 (by omega) (by omega)
      rw [U0.out, szN_yes (by omega)] at hc
      obtain ⟨l0, hl0⟩ : ∃ l, 1048576 - (u0 : Int) = l := ⟨_, rfl⟩
      rw [hl0] at hc
      have t0 : decide (l0 < 0) = false := decide_eq_false (by omega)
      have HC := Lib.hid hc
      clear hc
      refine HC.out.mono ?_
      rintro e w1 ⟨rfl, hb⟩
      clear HC
      have szw1 := hb.size
      replace F0 := Lib.hid (F0.out.below hb (by omega))
      replace F1 := Lib.hid (F1.out.below hb (by omega))
      replace T := Lib.hid (T.out.trans (hb.mono (by omega)))
      clear hb
      have hc := szInsS_c _ _ a1 n1 c1 x1 (l0) F1.out (by omega) m1 (by omega) (by omega)
      rw [U1.out, szN_yes (by omega)] at hc
      obtain ⟨l1, hl1⟩ : ∃ l, l0 - (u1 : Int) = l := ⟨_, rfl⟩
      rw [hl1] at hc
      have t1 : decide (l1 < 0) = false := decide_eq_false (by omega)
      have HC := Lib.hid hc
      clear hc
      go_wp2_with fail
      refine HC.out.mono ?_
      rintro e w2 ⟨rfl, hb⟩
      clear HC
      have szw2 := hb.size
      replace F0 := Lib.hid (F0.out.below hb (by omega))
      replace F1 := Lib.hid (F1.out.below hb (by omega))
      replace T := Lib.hid (T.out.trans (hb.mono (by omega)))
      clear hb
      have ub : u0 + u1 ≤ 1048576 := by omega
      have ln0 : n0 ≤ 1048576 := by have e1 := bulk_list shOp F0.out; have e2 := U0.out; omega
      have ln1 : n1 ≤ 1048576 := by have e1 := bulk_list shIns F1.out; have e2 := U1.out; omega
      obtain ⟨v, hv⟩ : ∃ v, newN x0 x1 a2 a3 = v := ⟨_, rfl⟩
      have vb : smallStage v := by
        rw [← hv]
        exact new_small x0 x1 a2 a3 (by rw [U0.out]; omega) (by rw [U1.out]; omega)
      obtain ⟨kv, hkv⟩ : ∃ k, ownStage.ctT v = k := ⟨_, rfl⟩
      have fwv : kv ≤ 167772160 := by rw [← hkv]; exact ownStage_ctsmall vb
      have KV := Lib.hid hkv
      have HV := Lib.hid hv
      clear hv hkv
      have HC := Lib.hid (toOpS_c _ _ a0 n0 c0 x0 F0.out (by omega) (by rw [U0.out]; omega))
      go_wp2_with fail
      refine HC.out.mono ?_
      rintro e w3 ⟨rfl, hr, hb⟩
      clear HC
      have szw3 := hb.size
      replace F0 := Lib.hid (F0.out.below hb (by omega))
      replace F1 := Lib.hid (F1.out.below hb (by omega))
      replace T := Lib.hid (T.out.trans (hb.mono (by omega)))
      clear hb
      have Y0 := Lib.hid hr.under
      clear hr
      have HC := Lib.hid (toInsS_c _ _ a1 n1 c1 x1 F1.out (by omega) (by rw [U1.out]; omega))
      go_wp2_with fail
      refine HC.out.mono ?_
      rintro e w4 ⟨rfl, hr, hb⟩
      clear HC
      have szw4 := hb.size
      replace F0 := Lib.hid (F0.out.below hb (by omega))
      replace F1 := Lib.hid (F1.out.below hb (by omega))
      replace Y0 := Lib.hid (Y0.out.below hb (by omega))
      replace T := Lib.hid (T.out.trans (hb.mono (by omega)))
      clear hb
      have Y1 := Lib.hid hr.under
      clear hr
      have hc := specStageNew_o _ _ n0 n0 x0 (Y0.out.le (by omega)) (Nat.le_refl _) (by omega) (by rw [U0.out]; omega) _ n1 n1 x1 (Y1.out.le (by omega)) (Nat.le_refl _) (by omega) (by rw [U1.out]; omega) a2 a3
      rw [HV.out] at hc
      have HC := Lib.hid hc
      clear hc
      go_wp2_with fail
      refine HC.out.mono ?_
      rintro e w5 ⟨eW, rfl, hr, hb⟩
      clear HC
      have szw5 := hb.size
      replace F0 := Lib.hid (F0.out.below hb (by omega))
      replace F1 := Lib.hid (F1.out.below hb (by omega))
      replace T := Lib.hid (T.out.trans (hb.mono (by omega)))
      clear hb
      obtain ⟨aW_0, nW_0, cW_0, aW_1, nW_1, cW_1, aW_2, nW_2, cW_2, aW_3, nW_3, cW_3, aW_4, nW_4, cW_4, aW_5, nW_5, cW_5, aW_6, nW_6, cW_6, aW_7, nW_7, cW_7, aW_8, nW_8, cW_8, rfl, -⟩ := shStage_reads.1 hr
      have W := Lib.hid (shStage.under hr)
      clear hr
      clear Y0 Y1
      have hb := (Below.refl w5.heap.size w5).alloc (Nat.le_refl _) (.cells #[.int .i64 v.1, .slice aW_0 nW_0 cW_0, .slice aW_1 nW_1 cW_1, .bool v.2.2.2.1, .bool v.2.2.2.2.1, .slice aW_2 nW_2 cW_2, .slice aW_3 nW_3 cW_3, .slice aW_4 nW_4 cW_4, .slice aW_5 nW_5 cW_5, .slice aW_6 nW_6 cW_6, .slice aW_7 nW_7 cW_7, .slice aW_8 nW_8 cW_8, .int .i64 v.2.2.2.2.2.2.2.2.2.2.2.2.1, .bool v.2.2.2.2.2.2.2.2.2.2.2.2.2] 34 (0, 0))
      have hk := heap_alloc_new w5 (.cells #[.int .i64 v.1, .slice aW_0 nW_0 cW_0, .slice aW_1 nW_1 cW_1, .bool v.2.2.2.1, .bool v.2.2.2.2.1, .slice aW_2 nW_2 cW_2, .slice aW_3 nW_3 cW_3, .slice aW_4 nW_4 cW_4, .slice aW_5 nW_5 cW_5, .slice aW_6 nW_6 cW_6, .slice aW_7 nW_7 cW_7, .slice aW_8 nW_8 cW_8, .int .i64 v.2.2.2.2.2.2.2.2.2.2.2.2.1, .bool v.2.2.2.2.2.2.2.2.2.2.2.2.2] 34 (0, 0))
      have szw6 : w5.heap.size < (w5.alloc (.cells #[.int .i64 v.1, .slice aW_0 nW_0 cW_0, .slice aW_1 nW_1 cW_1, .bool v.2.2.2.1, .bool v.2.2.2.2.1, .slice aW_2 nW_2 cW_2, .slice aW_3 nW_3 cW_3, .slice aW_4 nW_4 cW_4, .slice aW_5 nW_5 cW_5, .slice aW_6 nW_6 cW_6, .slice aW_7 nW_7 cW_7, .slice aW_8 nW_8 cW_8, .int .i64 v.2.2.2.2.2.2.2.2.2.2.2.2.1, .bool v.2.2.2.2.2.2.2.2.2.2.2.2.2] 34 (0, 0))).heap.size := by simp
      obtain ⟨w6, hww6⟩ : ∃ W, w5.alloc (.cells #[.int .i64 v.1, .slice aW_0 nW_0 cW_0, .slice aW_1 nW_1 cW_1, .bool v.2.2.2.1, .bool v.2.2.2.2.1, .slice aW_2 nW_2 cW_2, .slice aW_3 nW_3 cW_3, .slice aW_4 nW_4 cW_4, .slice aW_5 nW_5 cW_5, .slice aW_6 nW_6 cW_6, .slice aW_7 nW_7 cW_7, .slice aW_8 nW_8 cW_8, .int .i64 v.2.2.2.2.2.2.2.2.2.2.2.2.1, .bool v.2.2.2.2.2.2.2.2.2.2.2.2.2] 34 (0, 0)) = W := ⟨_, rfl⟩
      rw [hww6] at hb hk szw6
      replace F0 := Lib.hid (F0.out.below hb (by omega))
      replace F1 := Lib.hid (F1.out.below hb (by omega))
      replace W := Lib.hid (shStage.below W.out hb (by omega))
      replace T := Lib.hid (T.out.trans (hb.mono (by omega)))
      have BW := Lib.hid hk
      clear hb hk
      have HC := Lib.hid (toOpS_o _ _ a0 n0 c0 x0 F0.out (by omega) (by rw [U0.out]; omega))
      go_wp2_with fail
      clear hww6
      refine HC.out.mono ?_
      rintro e w7 ⟨rfl, hr, hb⟩
      clear HC
      have szw7 := hb.size
      replace F0 := Lib.hid (F0.out.below hb (by omega))
      replace F1 := Lib.hid (F1.out.below hb (by omega))
      replace W := Lib.hid (shStage.below W.out hb (by omega))
      replace BW := Lib.hid ((hb.block w5.heap.size (by omega)).trans BW.out)
      replace T := Lib.hid (T.out.trans (hb.mono (by omega)))
      clear hb
      have X0 := Lib.hid hr
      clear hr
      have HC := Lib.hid (toInsS_o _ _ a1 n1 c1 x1 F1.out (by omega) (by rw [U1.out]; omega))
      go_wp2_with fail
      refine HC.out.mono ?_
      rintro e w8 ⟨rfl, hr, hb⟩
      clear HC
      have szw8 := hb.size
      replace F0 := Lib.hid (F0.out.below hb (by omega))
      replace F1 := Lib.hid (F1.out.below hb (by omega))
      replace W := Lib.hid (shStage.below W.out hb (by omega))
      replace BW := Lib.hid ((hb.block w5.heap.size (by omega)).trans BW.out)
      replace X0 := Lib.hid (X0.out.keep (.of_below hb fun b o f => by have := f.2; omega))
      replace T := Lib.hid (T.out.trans (hb.mono (by omega)))
      clear hb
      have X1 := Lib.hid hr
      clear hr
      have hc := implStageNew_o _ _ n0 n0 x0 (X0.out.listAt (fun b o f => by have := f.2; exact Nat.lt_of_lt_of_le this (by omega)) (by decide)) (Nat.le_refl _) (by omega) (by rw [U0.out]; omega) _ n1 n1 x1 (X1.out.listAt (fun b o f => by have := f.2; exact Nat.lt_of_lt_of_le this (by omega)) (by decide)) (Nat.le_refl _) (by omega) (by rw [U1.out]; omega) a2 a3
      rw [HV.out] at hc
      have HC := Lib.hid hc
      clear hc
      go_wp2_with fail
      refine HC.out.mono ?_
      rintro e w9 ⟨eG, rfl, hr, hb⟩
      clear HC
      have szw9 := hb.size
      replace F0 := Lib.hid (F0.out.below hb (by omega))
      replace F1 := Lib.hid (F1.out.below hb (by omega))
      replace W := Lib.hid (shStage.below W.out hb (by omega))
      replace BW := Lib.hid ((hb.block w5.heap.size (by omega)).trans BW.out)
      replace X0 := Lib.hid (X0.out.keep (.of_below hb fun b o f => by have := f.2; omega))
      replace X1 := Lib.hid (X1.out.keep (.of_below hb fun b o f => by have := f.2; omega))
      replace T := Lib.hid (T.out.trans (hb.mono (by omega)))
      clear hb
      obtain ⟨aG_0, nG_0, cG_0, aG_1, nG_1, cG_1, aG_2, nG_2, cG_2, aG_3, nG_3, cG_3, aG_4, nG_4, cG_4, aG_5, nG_5, cG_5, aG_6, nG_6, cG_6, aG_7, nG_7, cG_7, aG_8, nG_8, cG_8, Gx0, Gx1, Gx2, Gx3, Gx4, Gx5, Gx6, Gx7, Gx8, rfl, -⟩ := ownStage_owns.1 hr
      have G := Lib.hid hr
      clear hr
      have hb := (Below.refl w9.heap.size w9).alloc (Nat.le_refl _) (.cells #[.int .i64 v.1, .slice aG_0 nG_0 cG_0, .slice aG_1 nG_1 cG_1, .bool v.2.2.2.1, .bool v.2.2.2.2.1, .slice aG_2 nG_2 cG_2, .slice aG_3 nG_3 cG_3, .slice aG_4 nG_4 cG_4, .slice aG_5 nG_5 cG_5, .slice aG_6 nG_6 cG_6, .slice aG_7 nG_7 cG_7, .slice aG_8 nG_8 cG_8, .int .i64 v.2.2.2.2.2.2.2.2.2.2.2.2.1, .bool v.2.2.2.2.2.2.2.2.2.2.2.2.2] 34 (0, 0))
      have hk := heap_alloc_new w9 (.cells #[.int .i64 v.1, .slice aG_0 nG_0 cG_0, .slice aG_1 nG_1 cG_1, .bool v.2.2.2.1, .bool v.2.2.2.2.1, .slice aG_2 nG_2 cG_2, .slice aG_3 nG_3 cG_3, .slice aG_4 nG_4 cG_4, .slice aG_5 nG_5 cG_5, .slice aG_6 nG_6 cG_6, .slice aG_7 nG_7 cG_7, .slice aG_8 nG_8 cG_8, .int .i64 v.2.2.2.2.2.2.2.2.2.2.2.2.1, .bool v.2.2.2.2.2.2.2.2.2.2.2.2.2] 34 (0, 0))
      have szw10 : w9.heap.size < (w9.alloc (.cells #[.int .i64 v.1, .slice aG_0 nG_0 cG_0, .slice aG_1 nG_1 cG_1, .bool v.2.2.2.1, .bool v.2.2.2.2.1, .slice aG_2 nG_2 cG_2, .slice aG_3 nG_3 cG_3, .slice aG_4 nG_4 cG_4, .slice aG_5 nG_5 cG_5, .slice aG_6 nG_6 cG_6, .slice aG_7 nG_7 cG_7, .slice aG_8 nG_8 cG_8, .int .i64 v.2.2.2.2.2.2.2.2.2.2.2.2.1, .bool v.2.2.2.2.2.2.2.2.2.2.2.2.2] 34 (0, 0))).heap.size := by simp
      obtain ⟨w10, hww10⟩ : ∃ W, w9.alloc (.cells #[.int .i64 v.1, .slice aG_0 nG_0 cG_0, .slice aG_1 nG_1 cG_1, .bool v.2.2.2.1, .bool v.2.2.2.2.1, .slice aG_2 nG_2 cG_2, .slice aG_3 nG_3 cG_3, .slice aG_4 nG_4 cG_4, .slice aG_5 nG_5 cG_5, .slice aG_6 nG_6 cG_6, .slice aG_7 nG_7 cG_7, .slice aG_8 nG_8 cG_8, .int .i64 v.2.2.2.2.2.2.2.2.2.2.2.2.1, .bool v.2.2.2.2.2.2.2.2.2.2.2.2.2] 34 (0, 0)) = W := ⟨_, rfl⟩
      rw [hww10] at hb hk szw10
      replace F0 := Lib.hid (F0.out.below hb (by omega))
      replace F1 := Lib.hid (F1.out.below hb (by omega))
      replace W := Lib.hid (shStage.below W.out hb (by omega))
      replace BW := Lib.hid ((hb.block w5.heap.size (by omega)).trans BW.out)
      replace X0 := Lib.hid (X0.out.keep (.of_below hb fun b o f => by have := f.2; omega))
      replace X1 := Lib.hid (X1.out.keep (.of_below hb fun b o f => by have := f.2; omega))
      replace G := Lib.hid (ownStage.owns_keep G.out (.of_below hb fun b o f => by have := f.2; omega))
      replace T := Lib.hid (T.out.trans (hb.mono (by omega)))
      have BG := Lib.hid hk
      clear hb hk
      have HC := Lib.hid (eqStage_c _ _ _ _ _ v (ownStage.owns_reads (I := Under w9.heap.size) G.out fun b o f => f.2) W.out (by omega) (by omega) vb)
      have zg_0 := cell_of_row _ w9.heap.size 0 _ _ _ BG.out
      have zg_1 := cell_of_row _ w9.heap.size 1 _ _ _ BG.out
      have zg_2 := cell_of_row _ w9.heap.size 2 _ _ _ BG.out
      have zg_3 := cell_of_row _ w9.heap.size 3 _ _ _ BG.out
      have zg_4 := cell_of_row _ w9.heap.size 4 _ _ _ BG.out
      have zg_5 := cell_of_row _ w9.heap.size 5 _ _ _ BG.out
      have zg_6 := cell_of_row _ w9.heap.size 6 _ _ _ BG.out
      have zg_7 := cell_of_row _ w9.heap.size 7 _ _ _ BG.out
      have zg_8 := cell_of_row _ w9.heap.size 8 _ _ _ BG.out
      have zg_9 := cell_of_row _ w9.heap.size 9 _ _ _ BG.out
      have zg_10 := cell_of_row _ w9.heap.size 10 _ _ _ BG.out
      have zg_11 := cell_of_row _ w9.heap.size 11 _ _ _ BG.out
      have zg_12 := cell_of_row _ w9.heap.size 12 _ _ _ BG.out
      have zg_13 := cell_of_row _ w9.heap.size 13 _ _ _ BG.out
      simp only [List.getElem?_toArray, List.getElem?_cons_zero, List.getElem?_cons_succ] at zg_0 zg_1 zg_2 zg_3 zg_4 zg_5 zg_6 zg_7 zg_8 zg_9 zg_10 zg_11 zg_12 zg_13
      have zw_0 := cell_of_row _ w5.heap.size 0 _ _ _ BW.out
      have zw_1 := cell_of_row _ w5.heap.size 1 _ _ _ BW.out
      have zw_2 := cell_of_row _ w5.heap.size 2 _ _ _ BW.out
      have zw_3 := cell_of_row _ w5.heap.size 3 _ _ _ BW.out
      have zw_4 := cell_of_row _ w5.heap.size 4 _ _ _ BW.out
      have zw_5 := cell_of_row _ w5.heap.size 5 _ _ _ BW.out
      have zw_6 := cell_of_row _ w5.heap.size 6 _ _ _ BW.out
      have zw_7 := cell_of_row _ w5.heap.size 7 _ _ _ BW.out
      have zw_8 := cell_of_row _ w5.heap.size 8 _ _ _ BW.out
      have zw_9 := cell_of_row _ w5.heap.size 9 _ _ _ BW.out
      have zw_10 := cell_of_row _ w5.heap.size 10 _ _ _ BW.out
      have zw_11 := cell_of_row _ w5.heap.size 11 _ _ _ BW.out
      have zw_12 := cell_of_row _ w5.heap.size 12 _ _ _ BW.out
      have zw_13 := cell_of_row _ w5.heap.size 13 _ _ _ BW.out
      simp only [List.getElem?_toArray, List.getElem?_cons_zero, List.getElem?_cons_succ] at zw_0 zw_1 zw_2 zw_3 zw_4 zw_5 zw_6 zw_7 zw_8 zw_9 zw_10 zw_11 zw_12 zw_13
      go_wp2_with fail
      clear hww10
      clear zg_0 zg_1 zg_2 zg_3 zg_4 zg_5 zg_6 zg_7 zg_8 zg_9 zg_10 zg_11 zg_12 zg_13
      clear zw_0 zw_1 zw_2 zw_3 zw_4 zw_5 zw_6 zw_7 zw_8 zw_9 zw_10 zw_11 zw_12 zw_13
      refine HC.out.mono ?_
      rintro e w11 ⟨rfl, hb⟩
      clear HC
      have szw11 := hb.size
      replace F0 := Lib.hid (F0.out.below hb (by omega))
      replace F1 := Lib.hid (F1.out.below hb (by omega))
      replace W := Lib.hid (shStage.below W.out hb (by omega))
      replace BW := Lib.hid ((hb.block w5.heap.size (by omega)).trans BW.out)
      replace X0 := Lib.hid (X0.out.keep (.of_below hb fun b o f => by have := f.2; omega))
      replace X1 := Lib.hid (X1.out.keep (.of_below hb fun b o f => by have := f.2; omega))
      replace G := Lib.hid (ownStage.owns_keep G.out (.of_below hb fun b o f => by have := f.2; omega))
      replace BG := Lib.hid ((hb.block w9.heap.size (by omega)).trans BG.out)
      replace T := Lib.hid (T.out.trans (hb.mono (by omega)))
      clear hb
      have HC := Lib.hid (toOpS_c _ _ a0 n0 c0 x0 F0.out (by omega) (by rw [U0.out]; omega))
      go_wp2_with fail
      refine HC.out.mono ?_
      rintro e w12 ⟨rfl, hr, hb⟩
      clear HC
      have szw12 := hb.size
      replace F0 := Lib.hid (F0.out.below hb (by omega))
      replace F1 := Lib.hid (F1.out.below hb (by omega))
      replace W := Lib.hid (shStage.below W.out hb (by omega))
      replace BW := Lib.hid ((hb.block w5.heap.size (by omega)).trans BW.out)
      replace X0 := Lib.hid (X0.out.keep (.of_below hb fun b o f => by have := f.2; omega))
      replace X1 := Lib.hid (X1.out.keep (.of_below hb fun b o f => by have := f.2; omega))
      replace G := Lib.hid (ownStage.owns_keep G.out (.of_below hb fun b o f => by have := f.2; omega))
      replace BG := Lib.hid ((hb.block w9.heap.size (by omega)).trans BG.out)
      replace T := Lib.hid (T.out.trans (hb.mono (by omega)))
      clear hb
      have Z0 := Lib.hid hr.under
      clear hr
      have HC := Lib.hid (eqOpS_c _ _ _ _ _ n0 n0 n0 x0 (X0.out.listAt (I := Under w7.heap.size) (fun b o f => f.2) (by decide)) Z0.out (by omega) (by omega) (by rw [U0.out]; omega))
      go_wp2_with fail
      refine HC.out.mono ?_
      rintro e w13 ⟨rfl, hb⟩
      clear HC Z0
      have szw13 := hb.size
      replace F0 := Lib.hid (F0.out.below hb (by omega))
      replace F1 := Lib.hid (F1.out.below hb (by omega))
      replace W := Lib.hid (shStage.below W.out hb (by omega))
      replace BW := Lib.hid ((hb.block w5.heap.size (by omega)).trans BW.out)
      replace X0 := Lib.hid (X0.out.keep (.of_below hb fun b o f => by have := f.2; omega))
      replace X1 := Lib.hid (X1.out.keep (.of_below hb fun b o f => by have := f.2; omega))
      replace G := Lib.hid (ownStage.owns_keep G.out (.of_below hb fun b o f => by have := f.2; omega))
      replace BG := Lib.hid ((hb.block w9.heap.size (by omega)).trans BG.out)
      replace T := Lib.hid (T.out.trans (hb.mono (by omega)))
      clear hb
      have HC := Lib.hid (toInsS_c _ _ a1 n1 c1 x1 F1.out (by omega) (by rw [U1.out]; omega))
      go_wp2_with fail
      refine HC.out.mono ?_
      rintro e w14 ⟨rfl, hr, hb⟩
      clear HC
      have szw14 := hb.size
      replace F0 := Lib.hid (F0.out.below hb (by omega))
      replace F1 := Lib.hid (F1.out.below hb (by omega))
      replace W := Lib.hid (shStage.below W.out hb (by omega))
      replace BW := Lib.hid ((hb.block w5.heap.size (by omega)).trans BW.out)
      replace X0 := Lib.hid (X0.out.keep (.of_below hb fun b o f => by have := f.2; omega))
      replace X1 := Lib.hid (X1.out.keep (.of_below hb fun b o f => by have := f.2; omega))
      replace G := Lib.hid (ownStage.owns_keep G.out (.of_below hb fun b o f => by have := f.2; omega))
      replace BG := Lib.hid ((hb.block w9.heap.size (by omega)).trans BG.out)
      replace T := Lib.hid (T.out.trans (hb.mono (by omega)))
      clear hb
      have Z1 := Lib.hid hr.under
      clear hr
      have HC := Lib.hid (eqInsS_c _ _ _ _ _ n1 n1 n1 x1 (X1.out.listAt (I := Under w8.heap.size) (fun b o f => f.2) (by decide)) Z1.out (by omega) (by omega) (by rw [U1.out]; omega))
      go_wp2_with fail
      refine HC.out.mono ?_
      rintro e w15 ⟨rfl, hb⟩
      clear HC Z1
      have szw15 := hb.size
      replace F0 := Lib.hid (F0.out.below hb (by omega))
      replace F1 := Lib.hid (F1.out.below hb (by omega))
      replace W := Lib.hid (shStage.below W.out hb (by omega))
      replace BW := Lib.hid ((hb.block w5.heap.size (by omega)).trans BW.out)
      replace X0 := Lib.hid (X0.out.keep (.of_below hb fun b o f => by have := f.2; omega))
      replace X1 := Lib.hid (X1.out.keep (.of_below hb fun b o f => by have := f.2; omega))
      replace G := Lib.hid (ownStage.owns_keep G.out (.of_below hb fun b o f => by have := f.2; omega))
      replace BG := Lib.hid ((hb.block w9.heap.size (by omega)).trans BG.out)
      replace T := Lib.hid (T.out.trans (hb.mono (by omega)))
      clear hb
      have hc := markOpS_o _ _ (some ⟨w6.heap.size, 0, none⟩) n0 n0 x0 (1) X0.out (by rw [U0.out]; omega) (by omega) (by rw [K0.out]; omega)
      rw [K0.out] at hc
      have HC := Lib.hid hc
      clear hc
      go_wp2_with fail
      refine HC.out.mono ?_
      rintro e w16 ⟨rfl, ho, ht⟩
      clear HC
      have hq := ht.below (B := w6.heap.size) fun b o f => f.1
      replace F0 := Lib.hid (F0.out.below hq (by omega))
      replace F1 := Lib.hid (F1.out.below hq (by omega))
      replace W := Lib.hid (shStage.below W.out hq (by omega))
      replace BW := Lib.hid ((ht.block w5.heap.size fun o f => by have h1 := f.1; have h2 := f.2; omega).trans BW.out)
      replace X1 := Lib.hid (X1.out.keep (ht.same fun b o f f' => by have h1 := f.1; have h2 := f.2; have h3 := f'.1; have h4 := f'.2; omega))
      replace G := Lib.hid (ownStage.owns_keep G.out (ht.same fun b o f f' => by have h1 := f.1; have h2 := f.2; have h3 := f'.1; have h4 := f'.2; omega))
      replace BG := Lib.hid ((ht.block w9.heap.size fun o f => by have h1 := f.1; have h2 := f.2; omega).trans BG.out)
      replace T := Lib.hid (T.out.trans (hq.mono (by omega)))
      have szt := ht.size
      clear hq
      have szw16 : w15.heap.size ≤ w16.heap.size := Nat.le_of_eq szt.symm
      clear ht szt ho X0
      have hc := markInsS_o _ _ (some ⟨w7.heap.size, 0, none⟩) n1 n1 x1 (1 + (k0 : Nat)) X1.out (by rw [U1.out]; omega) (by omega) (by rw [K1.out]; omega)
      rw [K1.out] at hc
      have HC := Lib.hid hc
      clear hc
      go_wp2_with fail
      refine HC.out.mono ?_
      rintro e w17 ⟨rfl, ho, ht⟩
      clear HC
      have hq := ht.below (B := w7.heap.size) fun b o f => f.1
      replace F0 := Lib.hid (F0.out.below hq (by omega))
      replace F1 := Lib.hid (F1.out.below hq (by omega))
      replace W := Lib.hid (shStage.below W.out hq (by omega))
      replace BW := Lib.hid ((ht.block w5.heap.size fun o f => by have h1 := f.1; have h2 := f.2; omega).trans BW.out)
      replace G := Lib.hid (ownStage.owns_keep G.out (ht.same fun b o f f' => by have h1 := f.1; have h2 := f.2; have h3 := f'.1; have h4 := f'.2; omega))
      replace BG := Lib.hid ((ht.block w9.heap.size fun o f => by have h1 := f.1; have h2 := f.2; omega).trans BG.out)
      replace T := Lib.hid (T.out.trans (hq.mono (by omega)))
      have szt := ht.size
      clear hq
      have szw17 : w16.heap.size ≤ w17.heap.size := Nat.le_of_eq szt.symm
      clear ht szt ho X1
      have tk : decide ((1 : Int) + (k0 : Int) + (k1 : Int) < 0) = false := decide_eq_false (by omega)
      have HC := Lib.hid (eqStage_c _ _ _ _ _ v (ownStage.owns_reads (I := Under w9.heap.size) G.out fun b o f => f.2) W.out (by omega) (by omega) vb)
      have zg_0 := cell_of_row _ w9.heap.size 0 _ _ _ BG.out
      have zg_1 := cell_of_row _ w9.heap.size 1 _ _ _ BG.out
      have zg_2 := cell_of_row _ w9.heap.size 2 _ _ _ BG.out
      have zg_3 := cell_of_row _ w9.heap.size 3 _ _ _ BG.out
      have zg_4 := cell_of_row _ w9.heap.size 4 _ _ _ BG.out
      have zg_5 := cell_of_row _ w9.heap.size 5 _ _ _ BG.out
      have zg_6 := cell_of_row _ w9.heap.size 6 _ _ _ BG.out
      have zg_7 := cell_of_row _ w9.heap.size 7 _ _ _ BG.out
      have zg_8 := cell_of_row _ w9.heap.size 8 _ _ _ BG.out
      have zg_9 := cell_of_row _ w9.heap.size 9 _ _ _ BG.out
      have zg_10 := cell_of_row _ w9.heap.size 10 _ _ _ BG.out
      have zg_11 := cell_of_row _ w9.heap.size 11 _ _ _ BG.out
      have zg_12 := cell_of_row _ w9.heap.size 12 _ _ _ BG.out
      have zg_13 := cell_of_row _ w9.heap.size 13 _ _ _ BG.out
      simp only [List.getElem?_toArray, List.getElem?_cons_zero, List.getElem?_cons_succ] at zg_0 zg_1 zg_2 zg_3 zg_4 zg_5 zg_6 zg_7 zg_8 zg_9 zg_10 zg_11 zg_12 zg_13
      have zw_0 := cell_of_row _ w5.heap.size 0 _ _ _ BW.out
      have zw_1 := cell_of_row _ w5.heap.size 1 _ _ _ BW.out
      have zw_2 := cell_of_row _ w5.heap.size 2 _ _ _ BW.out
      have zw_3 := cell_of_row _ w5.heap.size 3 _ _ _ BW.out
      have zw_4 := cell_of_row _ w5.heap.size 4 _ _ _ BW.out
      have zw_5 := cell_of_row _ w5.heap.size 5 _ _ _ BW.out
      have zw_6 := cell_of_row _ w5.heap.size 6 _ _ _ BW.out
      have zw_7 := cell_of_row _ w5.heap.size 7 _ _ _ BW.out
      have zw_8 := cell_of_row _ w5.heap.size 8 _ _ _ BW.out
      have zw_9 := cell_of_row _ w5.heap.size 9 _ _ _ BW.out
      have zw_10 := cell_of_row _ w5.heap.size 10 _ _ _ BW.out
      have zw_11 := cell_of_row _ w5.heap.size 11 _ _ _ BW.out
      have zw_12 := cell_of_row _ w5.heap.size 12 _ _ _ BW.out
      have zw_13 := cell_of_row _ w5.heap.size 13 _ _ _ BW.out
      simp only [List.getElem?_toArray, List.getElem?_cons_zero, List.getElem?_cons_succ] at zw_0 zw_1 zw_2 zw_3 zw_4 zw_5 zw_6 zw_7 zw_8 zw_9 zw_10 zw_11 zw_12 zw_13
      go_wp2_with fail
      clear zg_0 zg_1 zg_2 zg_3 zg_4 zg_5 zg_6 zg_7 zg_8 zg_9 zg_10 zg_11 zg_12 zg_13
      clear zw_0 zw_1 zw_2 zw_3 zw_4 zw_5 zw_6 zw_7 zw_8 zw_9 zw_10 zw_11 zw_12 zw_13
      refine HC.out.mono ?_
      rintro e w18 ⟨rfl, hb⟩
      clear HC
      have szw18 := hb.size
      replace F0 := Lib.hid (F0.out.below hb (by omega))
      replace F1 := Lib.hid (F1.out.below hb (by omega))
      replace W := Lib.hid (shStage.below W.out hb (by omega))
      replace BW := Lib.hid ((hb.block w5.heap.size (by omega)).trans BW.out)
      replace G := Lib.hid (ownStage.owns_keep G.out (.of_below hb fun b o f => by have := f.2; omega))
      replace BG := Lib.hid ((hb.block w9.heap.size (by omega)).trans BG.out)
      replace T := Lib.hid (T.out.trans (hb.mono (by omega)))
      clear hb
      have hc := markStage_o _ _ _ v 1 G.out (fun b o f => Nat.lt_of_lt_of_le f.2 (by omega)) vb (by omega) (by rw [KV.out]; omega)
      rw [KV.out] at hc
      have HC := Lib.hid hc
      clear hc
      have zg_0 := cell_of_row _ w9.heap.size 0 _ _ _ BG.out
      have zg_1 := cell_of_row _ w9.heap.size 1 _ _ _ BG.out
      have zg_2 := cell_of_row _ w9.heap.size 2 _ _ _ BG.out
      have zg_3 := cell_of_row _ w9.heap.size 3 _ _ _ BG.out
      have zg_4 := cell_of_row _ w9.heap.size 4 _ _ _ BG.out
      have zg_5 := cell_of_row _ w9.heap.size 5 _ _ _ BG.out
      have zg_6 := cell_of_row _ w9.heap.size 6 _ _ _ BG.out
      have zg_7 := cell_of_row _ w9.heap.size 7 _ _ _ BG.out
      have zg_8 := cell_of_row _ w9.heap.size 8 _ _ _ BG.out
      have zg_9 := cell_of_row _ w9.heap.size 9 _ _ _ BG.out
      have zg_10 := cell_of_row _ w9.heap.size 10 _ _ _ BG.out
      have zg_11 := cell_of_row _ w9.heap.size 11 _ _ _ BG.out
      have zg_12 := cell_of_row _ w9.heap.size 12 _ _ _ BG.out
      have zg_13 := cell_of_row _ w9.heap.size 13 _ _ _ BG.out
      simp only [List.getElem?_toArray, List.getElem?_cons_zero, List.getElem?_cons_succ] at zg_0 zg_1 zg_2 zg_3 zg_4 zg_5 zg_6 zg_7 zg_8 zg_9 zg_10 zg_11 zg_12 zg_13
      go_wp2_with fail
      clear zg_0 zg_1 zg_2 zg_3 zg_4 zg_5 zg_6 zg_7 zg_8 zg_9 zg_10 zg_11 zg_12 zg_13
      refine HC.out.mono ?_
      rintro e w20 ⟨rfl, ho, w19, hb, ht⟩
      clear HC
      have szw19 := hb.size
      replace F0 := Lib.hid (F0.out.below hb (by omega))
      replace F1 := Lib.hid (F1.out.below hb (by omega))
      replace W := Lib.hid (shStage.below W.out hb (by omega))
      replace BW := Lib.hid ((hb.block w5.heap.size (by omega)).trans BW.out)
      replace BG := Lib.hid ((hb.block w9.heap.size (by omega)).trans BG.out)
      replace T := Lib.hid (T.out.trans (hb.mono (by omega)))
      clear hb
      have hq := ht.below (B := w8.heap.size) fun b o f => f.1
      replace F0 := Lib.hid (F0.out.below hq (by omega))
      replace F1 := Lib.hid (F1.out.below hq (by omega))
      replace W := Lib.hid (shStage.below W.out hq (by omega))
      replace BW := Lib.hid ((ht.block w5.heap.size fun o f => by have h1 := f.1; have h2 := f.2; omega).trans BW.out)
      replace BG := Lib.hid ((ht.block w9.heap.size fun o f => by have h1 := f.1; have h2 := f.2; omega).trans BG.out)
      replace T := Lib.hid (T.out.trans (hq.mono (by omega)))
      have szt := ht.size
      clear hq
      have szw20 : w19.heap.size ≤ w20.heap.size := Nat.le_of_eq szt.symm
      replace G := Lib.hid ho
      clear ht szt ho
      have tv : decide ((1 : Int) + (kv : Int) < 0) = false := decide_eq_false (by omega)
      have tn : ((1 : Int) + (kv : Int) != 1 + (kv : Int)) = false := by simp
      have hc := heldStage_o _ w9.heap.size _ v 1 (ownStage.owns_reads (I := Under w9.heap.size) G.out fun b o f => f.2) (by omega) vb (by omega) (by rw [KV.out]; omega)
      rw [KV.out] at hc
      have HC := Lib.hid hc
      clear hc
      have zg_0 := cell_of_row _ w9.heap.size 0 _ _ _ BG.out
      have zg_1 := cell_of_row _ w9.heap.size 1 _ _ _ BG.out
      have zg_2 := cell_of_row _ w9.heap.size 2 _ _ _ BG.out
      have zg_3 := cell_of_row _ w9.heap.size 3 _ _ _ BG.out
      have zg_4 := cell_of_row _ w9.heap.size 4 _ _ _ BG.out
      have zg_5 := cell_of_row _ w9.heap.size 5 _ _ _ BG.out
      have zg_6 := cell_of_row _ w9.heap.size 6 _ _ _ BG.out
      have zg_7 := cell_of_row _ w9.heap.size 7 _ _ _ BG.out
      have zg_8 := cell_of_row _ w9.heap.size 8 _ _ _ BG.out
      have zg_9 := cell_of_row _ w9.heap.size 9 _ _ _ BG.out
      have zg_10 := cell_of_row _ w9.heap.size 10 _ _ _ BG.out
      have zg_11 := cell_of_row _ w9.heap.size 11 _ _ _ BG.out
      have zg_12 := cell_of_row _ w9.heap.size 12 _ _ _ BG.out
      have zg_13 := cell_of_row _ w9.heap.size 13 _ _ _ BG.out
      simp only [List.getElem?_toArray, List.getElem?_cons_zero, List.getElem?_cons_succ] at zg_0 zg_1 zg_2 zg_3 zg_4 zg_5 zg_6 zg_7 zg_8 zg_9 zg_10 zg_11 zg_12 zg_13
      go_wp2_with fail
      clear zg_0 zg_1 zg_2 zg_3 zg_4 zg_5 zg_6 zg_7 zg_8 zg_9 zg_10 zg_11 zg_12 zg_13
      refine HC.out.mono ?_
      rintro e w21 ⟨rfl, hb⟩
      clear HC
      have szw21 := hb.size
      replace F0 := Lib.hid (F0.out.below hb (by omega))
      replace F1 := Lib.hid (F1.out.below hb (by omega))
      replace W := Lib.hid (shStage.below W.out hb (by omega))
      replace BW := Lib.hid ((hb.block w5.heap.size (by omega)).trans BW.out)
      replace BG := Lib.hid ((hb.block w9.heap.size (by omega)).trans BG.out)
      replace G := Lib.hid (ownStage.owns_keep G.out (.of_below hb fun b o f => by have := f.2; omega))
      replace T := Lib.hid (T.out.trans (hb.mono (by omega)))
      clear hb
      have HC := Lib.hid (toOpS_c _ _ a0 n0 c0 x0 F0.out (by omega) (by rw [U0.out]; omega))
      go_wp2_with fail
      refine HC.out.mono ?_
      rintro e w22 ⟨rfl, hr, hb⟩
      clear HC
      have szw22 := hb.size
      replace F0 := Lib.hid (F0.out.below hb (by omega))
      replace F1 := Lib.hid (F1.out.below hb (by omega))
      replace W := Lib.hid (shStage.below W.out hb (by omega))
      replace BW := Lib.hid ((hb.block w5.heap.size (by omega)).trans BW.out)
      replace BG := Lib.hid ((hb.block w9.heap.size (by omega)).trans BG.out)
      replace G := Lib.hid (ownStage.owns_keep G.out (.of_below hb fun b o f => by have := f.2; omega))
      replace T := Lib.hid (T.out.trans (hb.mono (by omega)))
      clear hb
      have H0 := Lib.hid hr.under
      clear hr
      have HC := Lib.hid (toInsS_c _ _ a1 n1 c1 x1 F1.out (by omega) (by rw [U1.out]; omega))
      go_wp2_with fail
      refine HC.out.mono ?_
      rintro e w23 ⟨rfl, hr, hb⟩
      clear HC
      have szw23 := hb.size
      replace F0 := Lib.hid (F0.out.below hb (by omega))
      replace F1 := Lib.hid (F1.out.below hb (by omega))
      replace W := Lib.hid (shStage.below W.out hb (by omega))
      replace BW := Lib.hid ((hb.block w5.heap.size (by omega)).trans BW.out)
      replace BG := Lib.hid ((hb.block w9.heap.size (by omega)).trans BG.out)
      replace G := Lib.hid (ownStage.owns_keep G.out (.of_below hb fun b o f => by have := f.2; omega))
      replace H0 := Lib.hid (H0.out.below hb (by omega))
      replace T := Lib.hid (T.out.trans (hb.mono (by omega)))
      clear hb
      have H1 := Lib.hid hr.under
      clear hr
      have hc := implStageNew_o _ _ n0 n0 x0 (H0.out.le (by omega)) (Nat.le_refl _) (by omega) (by rw [U0.out]; omega) _ n1 n1 x1 (H1.out.le (by omega)) (Nat.le_refl _) (by omega) (by rw [U1.out]; omega) a2 a3
      rw [HV.out] at hc
      have HC := Lib.hid hc
      clear hc
      go_wp2_with fail
      refine HC.out.mono ?_
      rintro e w24 ⟨eJ, rfl, hr, hb⟩
      clear HC
      have szw24 := hb.size
      replace F0 := Lib.hid (F0.out.below hb (by omega))
      replace F1 := Lib.hid (F1.out.below hb (by omega))
      replace W := Lib.hid (shStage.below W.out hb (by omega))
      replace BW := Lib.hid ((hb.block w5.heap.size (by omega)).trans BW.out)
      replace BG := Lib.hid ((hb.block w9.heap.size (by omega)).trans BG.out)
      replace G := Lib.hid (ownStage.owns_keep G.out (.of_below hb fun b o f => by have := f.2; omega))
      replace T := Lib.hid (T.out.trans (hb.mono (by omega)))
      clear hb
      obtain ⟨aJ_0, nJ_0, cJ_0, aJ_1, nJ_1, cJ_1, aJ_2, nJ_2, cJ_2, aJ_3, nJ_3, cJ_3, aJ_4, nJ_4, cJ_4, aJ_5, nJ_5, cJ_5, aJ_6, nJ_6, cJ_6, aJ_7, nJ_7, cJ_7, aJ_8, nJ_8, cJ_8, Gx0, Gx1, Gx2, Gx3, Gx4, Gx5, Gx6, Gx7, Gx8, rfl, -⟩ := ownStage_owns.1 hr
      have J := Lib.hid hr
      clear hr
      clear H0 H1
      have hb := (Below.refl w24.heap.size w24).alloc (Nat.le_refl _) (.cells #[.int .i64 v.1, .slice aJ_0 nJ_0 cJ_0, .slice aJ_1 nJ_1 cJ_1, .bool v.2.2.2.1, .bool v.2.2.2.2.1, .slice aJ_2 nJ_2 cJ_2, .slice aJ_3 nJ_3 cJ_3, .slice aJ_4 nJ_4 cJ_4, .slice aJ_5 nJ_5 cJ_5, .slice aJ_6 nJ_6 cJ_6, .slice aJ_7 nJ_7 cJ_7, .slice aJ_8 nJ_8 cJ_8, .int .i64 v.2.2.2.2.2.2.2.2.2.2.2.2.1, .bool v.2.2.2.2.2.2.2.2.2.2.2.2.2] 34 (0, 0))
      have hk := heap_alloc_new w24 (.cells #[.int .i64 v.1, .slice aJ_0 nJ_0 cJ_0, .slice aJ_1 nJ_1 cJ_1, .bool v.2.2.2.1, .bool v.2.2.2.2.1, .slice aJ_2 nJ_2 cJ_2, .slice aJ_3 nJ_3 cJ_3, .slice aJ_4 nJ_4 cJ_4, .slice aJ_5 nJ_5 cJ_5, .slice aJ_6 nJ_6 cJ_6, .slice aJ_7 nJ_7 cJ_7, .slice aJ_8 nJ_8 cJ_8, .int .i64 v.2.2.2.2.2.2.2.2.2.2.2.2.1, .bool v.2.2.2.2.2.2.2.2.2.2.2.2.2] 34 (0, 0))
      have szw25 : w24.heap.size < (w24.alloc (.cells #[.int .i64 v.1, .slice aJ_0 nJ_0 cJ_0, .slice aJ_1 nJ_1 cJ_1, .bool v.2.2.2.1, .bool v.2.2.2.2.1, .slice aJ_2 nJ_2 cJ_2, .slice aJ_3 nJ_3 cJ_3, .slice aJ_4 nJ_4 cJ_4, .slice aJ_5 nJ_5 cJ_5, .slice aJ_6 nJ_6 cJ_6, .slice aJ_7 nJ_7 cJ_7, .slice aJ_8 nJ_8 cJ_8, .int .i64 v.2.2.2.2.2.2.2.2.2.2.2.2.1, .bool v.2.2.2.2.2.2.2.2.2.2.2.2.2] 34 (0, 0))).heap.size := by simp
      obtain ⟨w25, hww25⟩ : ∃ W, w24.alloc (.cells #[.int .i64 v.1, .slice aJ_0 nJ_0 cJ_0, .slice aJ_1 nJ_1 cJ_1, .bool v.2.2.2.1, .bool v.2.2.2.2.1, .slice aJ_2 nJ_2 cJ_2, .slice aJ_3 nJ_3 cJ_3, .slice aJ_4 nJ_4 cJ_4, .slice aJ_5 nJ_5 cJ_5, .slice aJ_6 nJ_6 cJ_6, .slice aJ_7 nJ_7 cJ_7, .slice aJ_8 nJ_8 cJ_8, .int .i64 v.2.2.2.2.2.2.2.2.2.2.2.2.1, .bool v.2.2.2.2.2.2.2.2.2.2.2.2.2] 34 (0, 0)) = W := ⟨_, rfl⟩
      rw [hww25] at hb hk szw25
      replace F0 := Lib.hid (F0.out.below hb (by omega))
      replace F1 := Lib.hid (F1.out.below hb (by omega))
      replace W := Lib.hid (shStage.below W.out hb (by omega))
      replace BW := Lib.hid ((hb.block w5.heap.size (by omega)).trans BW.out)
      replace BG := Lib.hid ((hb.block w9.heap.size (by omega)).trans BG.out)
      replace G := Lib.hid (ownStage.owns_keep G.out (.of_below hb fun b o f => by have := f.2; omega))
      replace J := Lib.hid (ownStage.owns_keep J.out (.of_below hb fun b o f => by have := f.2; omega))
      replace T := Lib.hid (T.out.trans (hb.mono (by omega)))
      have BJ := Lib.hid hk
      clear hb hk
      have HC := Lib.hid (eqStage_c _ _ _ _ _ v (ownStage.owns_reads (I := Under w24.heap.size) J.out fun b o f => f.2) W.out (by omega) (by omega) vb)
      have zg_0 := cell_of_row _ w24.heap.size 0 _ _ _ BJ.out
      have zg_1 := cell_of_row _ w24.heap.size 1 _ _ _ BJ.out
      have zg_2 := cell_of_row _ w24.heap.size 2 _ _ _ BJ.out
      have zg_3 := cell_of_row _ w24.heap.size 3 _ _ _ BJ.out
      have zg_4 := cell_of_row _ w24.heap.size 4 _ _ _ BJ.out
      have zg_5 := cell_of_row _ w24.heap.size 5 _ _ _ BJ.out
      have zg_6 := cell_of_row _ w24.heap.size 6 _ _ _ BJ.out
      have zg_7 := cell_of_row _ w24.heap.size 7 _ _ _ BJ.out
      have zg_8 := cell_of_row _ w24.heap.size 8 _ _ _ BJ.out
      have zg_9 := cell_of_row _ w24.heap.size 9 _ _ _ BJ.out
      have zg_10 := cell_of_row _ w24.heap.size 10 _ _ _ BJ.out
      have zg_11 := cell_of_row _ w24.heap.size 11 _ _ _ BJ.out
      have zg_12 := cell_of_row _ w24.heap.size 12 _ _ _ BJ.out
      have zg_13 := cell_of_row _ w24.heap.size 13 _ _ _ BJ.out
      simp only [List.getElem?_toArray, List.getElem?_cons_zero, List.getElem?_cons_succ] at zg_0 zg_1 zg_2 zg_3 zg_4 zg_5 zg_6 zg_7 zg_8 zg_9 zg_10 zg_11 zg_12 zg_13
      have zw_0 := cell_of_row _ w5.heap.size 0 _ _ _ BW.out
      have zw_1 := cell_of_row _ w5.heap.size 1 _ _ _ BW.out
      have zw_2 := cell_of_row _ w5.heap.size 2 _ _ _ BW.out
      have zw_3 := cell_of_row _ w5.heap.size 3 _ _ _ BW.out
      have zw_4 := cell_of_row _ w5.heap.size 4 _ _ _ BW.out
      have zw_5 := cell_of_row _ w5.heap.size 5 _ _ _ BW.out
      have zw_6 := cell_of_row _ w5.heap.size 6 _ _ _ BW.out
      have zw_7 := cell_of_row _ w5.heap.size 7 _ _ _ BW.out
      have zw_8 := cell_of_row _ w5.heap.size 8 _ _ _ BW.out
      have zw_9 := cell_of_row _ w5.heap.size 9 _ _ _ BW.out
      have zw_10 := cell_of_row _ w5.heap.size 10 _ _ _ BW.out
      have zw_11 := cell_of_row _ w5.heap.size 11 _ _ _ BW.out
      have zw_12 := cell_of_row _ w5.heap.size 12 _ _ _ BW.out
      have zw_13 := cell_of_row _ w5.heap.size 13 _ _ _ BW.out
      simp only [List.getElem?_toArray, List.getElem?_cons_zero, List.getElem?_cons_succ] at zw_0 zw_1 zw_2 zw_3 zw_4 zw_5 zw_6 zw_7 zw_8 zw_9 zw_10 zw_11 zw_12 zw_13
      go_wp2_with fail
      clear hww25
      clear zg_0 zg_1 zg_2 zg_3 zg_4 zg_5 zg_6 zg_7 zg_8 zg_9 zg_10 zg_11 zg_12 zg_13
      clear zw_0 zw_1 zw_2 zw_3 zw_4 zw_5 zw_6 zw_7 zw_8 zw_9 zw_10 zw_11 zw_12 zw_13
      refine HC.out.mono ?_
      rintro e w26 ⟨rfl, hb⟩
      clear HC
      have szw26 := hb.size
      replace F0 := Lib.hid (F0.out.below hb (by omega))
      replace F1 := Lib.hid (F1.out.below hb (by omega))
      replace W := Lib.hid (shStage.below W.out hb (by omega))
      replace BW := Lib.hid ((hb.block w5.heap.size (by omega)).trans BW.out)
      replace BG := Lib.hid ((hb.block w9.heap.size (by omega)).trans BG.out)
      replace G := Lib.hid (ownStage.owns_keep G.out (.of_below hb fun b o f => by have := f.2; omega))
      replace J := Lib.hid (ownStage.owns_keep J.out (.of_below hb fun b o f => by have := f.2; omega))
      replace BJ := Lib.hid ((hb.block w24.heap.size (by omega)).trans BJ.out)
      replace T := Lib.hid (T.out.trans (hb.mono (by omega)))
      clear hb
      have hc := heldStage_o _ w9.heap.size _ v 1 (ownStage.owns_reads (I := Under w9.heap.size) G.out fun b o f => f.2) (by omega) vb (by omega) (by rw [KV.out]; omega)
      rw [KV.out] at hc
      have HC := Lib.hid hc
      clear hc
      have zg_0 := cell_of_row _ w9.heap.size 0 _ _ _ BG.out
      have zg_1 := cell_of_row _ w9.heap.size 1 _ _ _ BG.out
      have zg_2 := cell_of_row _ w9.heap.size 2 _ _ _ BG.out
      have zg_3 := cell_of_row _ w9.heap.size 3 _ _ _ BG.out
      have zg_4 := cell_of_row _ w9.heap.size 4 _ _ _ BG.out
      have zg_5 := cell_of_row _ w9.heap.size 5 _ _ _ BG.out
      have zg_6 := cell_of_row _ w9.heap.size 6 _ _ _ BG.out
      have zg_7 := cell_of_row _ w9.heap.size 7 _ _ _ BG.out
      have zg_8 := cell_of_row _ w9.heap.size 8 _ _ _ BG.out
      have zg_9 := cell_of_row _ w9.heap.size 9 _ _ _ BG.out
      have zg_10 := cell_of_row _ w9.heap.size 10 _ _ _ BG.out
      have zg_11 := cell_of_row _ w9.heap.size 11 _ _ _ BG.out
      have zg_12 := cell_of_row _ w9.heap.size 12 _ _ _ BG.out
      have zg_13 := cell_of_row _ w9.heap.size 13 _ _ _ BG.out
      simp only [List.getElem?_toArray, List.getElem?_cons_zero, List.getElem?_cons_succ] at zg_0 zg_1 zg_2 zg_3 zg_4 zg_5 zg_6 zg_7 zg_8 zg_9 zg_10 zg_11 zg_12 zg_13
      go_wp2_with fail
      clear zg_0 zg_1 zg_2 zg_3 zg_4 zg_5 zg_6 zg_7 zg_8 zg_9 zg_10 zg_11 zg_12 zg_13
      refine HC.out.mono ?_
      rintro e w27 ⟨rfl, hb⟩
      clear HC
      have szw27 := hb.size
      replace F0 := Lib.hid (F0.out.below hb (by omega))
      replace F1 := Lib.hid (F1.out.below hb (by omega))
      replace W := Lib.hid (shStage.below W.out hb (by omega))
      replace BW := Lib.hid ((hb.block w5.heap.size (by omega)).trans BW.out)
      replace BG := Lib.hid ((hb.block w9.heap.size (by omega)).trans BG.out)
      replace G := Lib.hid (ownStage.owns_keep G.out (.of_below hb fun b o f => by have := f.2; omega))
      replace J := Lib.hid (ownStage.owns_keep J.out (.of_below hb fun b o f => by have := f.2; omega))
      replace BJ := Lib.hid ((hb.block w24.heap.size (by omega)).trans BJ.out)
      replace T := Lib.hid (T.out.trans (hb.mono (by omega)))
      clear hb
      go_wp2_with fail
      go_ret
      exact ⟨rfl, T.out⟩
    · go_enter Try.func3, Try.ntmps3
      go_wp2_with fail
      have hc := szOpS_c _ _ a0 n0 c0 x0 (1048576) F0.out (by omega) m0 (by omega) (by omega)
      rw [U0.out, szN_yes (by omega)] at hc
      obtain ⟨l0, hl0⟩ : ∃ l, 1048576 - (u0 : Int) = l := ⟨_, rfl⟩
      rw [hl0] at hc
      have t0 : decide (l0 < 0) = false := decide_eq_false (by omega)
      have HC := Lib.hid hc
      clear hc
      refine HC.out.mono ?_
      rintro e w1 ⟨rfl, hb⟩
      clear HC
      have szw1 := hb.size
      replace F0 := Lib.hid (F0.out.below hb (by omega))
      replace F1 := Lib.hid (F1.out.below hb (by omega))
      replace T := Lib.hid (T.out.trans (hb.mono (by omega)))
      clear hb
      have hc := szInsS_c _ _ a1 n1 c1 x1 (l0) F1.out (by omega) m1 (by omega) (by omega)
      rw [U1.out, szN_no (by omega)] at hc
      have HC := Lib.hid hc
      clear hc
      go_wp2_with fail
      refine HC.out.mono ?_
      rintro e w2 ⟨rfl, hb⟩
      clear HC
      have szw2 := hb.size
      replace F0 := Lib.hid (F0.out.below hb (by omega))
      replace F1 := Lib.hid (F1.out.below hb (by omega))
      replace T := Lib.hid (T.out.trans (hb.mono (by omega)))
      clear hb
      go_wp2_with fail
      go_ret
      exact ⟨rfl, T.out⟩
  · go_enter Try.func3, Try.ntmps3
    go_wp2_with fail
    have hc := szOpS_c _ _ a0 n0 c0 x0 (1048576) F0.out (by omega) m0 (by omega) (by omega)
    rw [U0.out, szN_no (by omega)] at hc
    have HC := Lib.hid hc
    clear hc
    refine HC.out.mono ?_
    rintro e w1 ⟨rfl, hb⟩
    clear HC
    have szw1 := hb.size
    replace F0 := Lib.hid (F0.out.below hb (by omega))
    replace F1 := Lib.hid (F1.out.below hb (by omega))
    replace T := Lib.hid (T.out.trans (hb.mono (by omega)))
    clear hb
    go_wp2_with fail
    go_ret
    exact ⟨rfl, T.out⟩
end Go.Proofs.Ytpnifgpmleaohaa

end
