/-
  The program's functions on tables of numbers.
-/
import Derived.Test.YtmnienebcedfoaaDoorChunk
import Derived.Test.YtmnienebcedfoaaDoorVecI
import Derived.Test.YtmnienebcedfoaaDoorMatT
namespace Go.Proofs.YtmnienebcedfoaaDoor
open Go.RowKit Go.Shelf
set_option linter.unusedVariables false
attribute [local go_sem] Oper.semAt_some

set_option maxRecDepth 100000 in
set_option maxHeartbeats 1000000 in
theorem implMatOk_any (w : World) (r c : Int) (a : Option Addr) (n cp : Nat) (xs : List Int) (h : IntsIn w.heap.size w a n xs) (hcp : n ≤ cp) (hcap : cp ≤ 9223372036854775807) :
    Calls Tryd.prog 34 #[.agg #[.int .i64 r, .int .i64 c, .slice a n cp]] w fun e w' => e = .returned (.bool (matOkB r c xs)) ∧ Below w.heap.size w w' := by
  refine (callsIn_wide (n := 6)).1 ?_
  obtain ⟨d, hd⟩ : ∃ d, d = matOkB r c xs := ⟨_, rfl⟩
  rw [← hd]
  have hl := h.len
  have hroom := h.room
  have hal : Below w.heap.size w ((w.alloc (.cells #[.int .i64 r, .int .i64 c, .slice a n cp] 26 (0, 0))).alloc (.cells #[.bool false] 4 (0, 0))) := ((Below.refl _ _).alloc (Nat.le_refl _) _).alloc (by simp) _
  have hb0 : ((w.alloc (.cells #[.int .i64 r, .int .i64 c, .slice a n cp] 26 (0, 0))).alloc (.cells #[.bool false] 4 (0, 0))).heap[w.heap.size]? = some (.cells #[.int .i64 r, .int .i64 c, .slice a n cp] 26 (0, 0)) := by
    rw [Below.heap_alloc _ _ _ (by simp)]
    exact heap_alloc_new w _
  have hb1 : Boxed ((w.alloc (.cells #[.int .i64 r, .int .i64 c, .slice a n cp] 26 (0, 0))).alloc (.cells #[.bool false] 4 (0, 0))) (w.heap.size + 1) 4 (.bool false) := by
    have := Boxed.new (w.alloc (.cells #[.int .i64 r, .int .i64 c, .slice a n cp] 26 (0, 0))) 4 (.bool false)
    rwa [World.size_alloc] at this
  have hs1 : ((w.alloc (.cells #[.int .i64 r, .int .i64 c, .slice a n cp] 26 (0, 0))).alloc (.cells #[.bool false] 4 (0, 0))).heap.size = w.heap.size + 2 := by simp
  have HX := Lib.hid (h.below hal (Nat.le_refl _))
  have HD := Lib.hid hd
  have HAL := Lib.hid hal
  have HB0 := Lib.hid hb0
  have HB1 := Lib.hid hb1
  have HL := Lib.hid hl
  clear h hd hal hb0 hb1 hl
  obtain ⟨mn, hmn⟩ : ∃ x, (if c < r then c else r) = x := ⟨_, rfl⟩
  obtain ⟨mx, hmx⟩ : ∃ x, (if r < c then c else r) = x := ⟨_, rfl⟩
  have HMN := Lib.hid hmn
  have HMX := Lib.hid hmx
  refine callsIn_of_wp_marks Tryd.func34 rfl trivial ?_ rfl
  simp only [Tryd.ntmps34, List.size_toArray, List.length_cons, List.length_nil, Nat.reduceAdd, Nat.reduceSub, Array.replicate_succ, Array.replicate_zero, List.push_toArray, List.append_toArray, List.nil_append, List.cons_append]
  by_cases h1 : mn < 1
  · have hdf : d = false := by rw [HD.out]; exact sizes_no xs HMN.out HMX.out (.inl h1)
    subst hdf
    gi_wp2
    exact marks_ret rfl (results_bool rfl _ _ _ _ _ rfl HB1.out Tryd.underlying4) ⟨rfl, HAL.out⟩
  · by_cases h2 : 6 < mx
    · have hdf : d = false := by rw [HD.out]; exact sizes_no xs HMN.out HMX.out (.inr h2)
      subst hdf
      gi_wp2
      exact marks_ret rfl (results_bool rfl _ _ _ _ _ rfl HB1.out Tryd.underlying4) ⟨rfl, HAL.out⟩
    · obtain ⟨hr, hc⟩ := sizes_yes hmn hmx h1 h2
      have hp := prod36 hr hc
      by_cases hn : (n : Int) = r * c
      · have hall : d = xs.all okB := by rw [HD.out]; exact matOkB_all hr hc (by rw [HL.out]; exact hn)
        have hw : wrap64 (r * c) = (n : Int) := by rw [IntWalk.wrap64_in (r * c) (by omega)]; exact hn.symm
        have hc1 : 1 ≤ c := (inB_has hc).1
        obtain ⟨m, hm⟩ : ∃ m : Nat, r = m := ⟨r.toNat, by have := inB_has hr; omega⟩
        obtain ⟨q, hq⟩ : ∃ q : Nat, c = q := ⟨c.toNat, by have := inB_has hc; omega⟩
        have hm6 : 1 ≤ m ∧ m ≤ 6 := by have := inB_has hr; omega
        have hq6 : 1 ≤ q ∧ q ≤ 6 := by have := inB_has hc; omega
        have hnq : n = m * q := by rw [hm, hq] at hn; exact_mod_cast hn
        have hn1 : 0 < n := by omega
        obtain ⟨b, o, ha, hbB, -⟩ := HX.out.cells 0 hn1
        subst ha
        have HNQ := Lib.hid hnq
        have HQ := Lib.hid hq
        have HA := Lib.hid hall
        clear hn hp hr hc hm hq hnq hall HD HMN HMX
        gi_wp2
        generalize (w.alloc (.cells #[.int .i64 r, .int .i64 c, .slice (some ⟨b, o, none⟩) n cp] 26 (0, 0))).alloc (.cells #[.bool false] 4 (0, 0)) = w1 at hs1 HX HAL HB0 HB1 ⊢
        refine ⟨trivial, ?_⟩
        refine (chunk_in _ _ _ _ _ hc1 _).mono ?_
        rintro e w' ⟨rfl, rfl⟩
        have hB2 : Below w1.heap.size w1 ((w1.alloc (.cells #[.slice (some ⟨b, o, none⟩) n cp] 24 (0, 0))).alloc (.cells #[.int .i64 c] 3 (0, 0))) := ((Below.refl _ _).alloc (Nat.le_refl _) _).alloc (by simp) _
        have bS : Boxed ((w1.alloc (.cells #[.slice (some ⟨b, o, none⟩) n cp] 24 (0, 0))).alloc (.cells #[.int .i64 c] 3 (0, 0))) (w.heap.size + 2) 24 (.slice (some ⟨b, o, none⟩) n cp) := by rw [← hs1]; exact (Boxed.new w1 24 _).alloc _
        have bN : Boxed ((w1.alloc (.cells #[.slice (some ⟨b, o, none⟩) n cp] 24 (0, 0))).alloc (.cells #[.int .i64 c] 3 (0, 0))) (w.heap.size + 3) 3 (.int .i64 q) := by
          have := Boxed.new (w1.alloc (.cells #[.slice (some ⟨b, o, none⟩) n cp] 24 (0, 0))) 3 (.int .i64 c)
          rw [World.size_alloc, hs1] at this
          rw [← HQ.out]
          exact this
        have hs2 : ((w1.alloc (.cells #[.slice (some ⟨b, o, none⟩) n cp] 24 (0, 0))).alloc (.cells #[.int .i64 c] 3 (0, 0))).heap.size = w.heap.size + 4 := by simp; omega
        have bS' := Lib.hid bS
        have bN' := Lib.hid bN
        have hB2' := Lib.hid hB2
        clear bS bN hB2
        gi_wp2
        generalize (w1.alloc (.cells #[.slice (some ⟨b, o, none⟩) n cp] 24 (0, 0))).alloc (.cells #[.int .i64 c] 3 (0, 0)) = W0 at bS' bN' hB2' hs2 ⊢
        refine wpIn_rangeFunc_ownG rfl (by omega) (gf := 53) (lb := #[.pointer (some ⟨w.heap.size + 2, 0, none⟩), .pointer (some ⟨w.heap.size + 3, 0, none⟩)]) rfl trivial (enters_of Tryd.func53 (by kernel_rfl) rfl)
          (chunk_stops _ (by omega) (w.heap.size + 2) (w.heap.size + 3) b o m q n cp HNQ.out hm6.2 hq6.1 hq6.2 hcp hcap (Below W0.heap.size)
            (fun X Y h => ⟨h.block _ (by omega), h.block _ (by omega)⟩) W0 _ _ bS'.out bN'.out)
          belowK_t (belowK_b (Nat.le_refl _)) (Below.refl _ _) (fun _ => rfl)
          (fun pre W => (∀ x ∈ pre, vecOkB (rowOf q xs x.1) = true) ∧ Below W0.heap.size W0 W)
          (fun c pre W => (c = .ret ∧ d = false ∧ Boxed W (w.heap.size + 1) 4 (.bool false)) ∧ Below w.heap.size w W)
          (OwnFrom.and (ownFrom_pure _ _) (ownFrom_below (Nat.le_refl _) (Nat.le_refl _)))
          (fun c => OwnFrom.and (Own.from (fun s A B row hs hg hr => ⟨hs.1, hs.2.1, boxed_own (w.heap.size + 1) 4 (fun _ => .bool false) s A B row hs.2.2 hg hr⟩) _) (ownFrom_below (Nat.le_refl _) (by omega)))
          ⟨by simp, Below.refl _ _⟩ ?a1 ?assign ?body ?done ?stop
        case assign =>
          intro l x W K hK
          simp only [rowEnc]
          gi_wp2
          exact hK
        case body =>
          rintro l pre x W ⟨hp, hB⟩ hlen
          have hBw : Below w.heap.size w W := HAL.out.trans ((hB2'.out.mono (by omega)).trans (hB.mono (by omega)))
          have hX : IntsIn w.heap.size W (some ⟨b, o + x.1 * q, none⟩) q (rowOf q xs x.1) := row_in (((HX.out.below hB2'.out (by omega)).below hB (by omega))) HNQ.out x.2
          have bR : Boxed W (w.heap.size + 1) 4 (.bool false) := (hB.block _ (by omega)).trans ((hB2'.out.block _ (by omega)).trans HB1.out)
          have hsz := hBw.size
          have HV := implVecOk_any W (some ⟨b, o + x.1 * q, none⟩) q q _ (hX.le hsz)
          have cR := bR.cell
          have fR := bR.frozen
          obtain ⟨v, hv⟩ : ∃ v, vecOkB (rowOf q xs x.1) = v := ⟨_, rfl⟩
          rw [hv] at HV
          have HV' := Lib.hid HV
          have HVV := Lib.hid hv
          have HP := Lib.hid hp
          have HBB := Lib.hid hB
          have HBW := Lib.hid hBw
          have HBR := Lib.hid bR
          clear HV hv hp hB hBw bR hX
          cases v
          · gi_wp2
            refine ⟨trivial, ?_⟩
            refine (CallsIn.inRound l (callsIn_wide.2 HV'.out)).mono ?_
            rintro e w' ⟨rfl, rfl⟩
            gi_wp2
            exact ⟨(KeepsOthers.setCell _ _ _).from _, ⟨rfl, by rw [HA.out]; exact row_bad hq6 (by rw [HL.out, HNQ.out]) x.2 HVV.out, HBR.out.set _⟩, HBW.out.setCell (by simp) _⟩
          · gi_wp2
            refine ⟨trivial, ?_⟩
            refine (CallsIn.inRound l (callsIn_wide.2 HV'.out)).mono ?_
            rintro e w' ⟨rfl, rfl⟩
            gi_wp2
            refine ⟨KeepsFrom.refl _ _, Below.refl _ _, fun y hy => ?_, HBB.out⟩
            rcases List.mem_append.1 hy with h | h
            · exact HP.out y h
            · obtain rfl : y = x := by simpa using h
              exact HVV.out
        case done =>
          rintro D ys W hD hS ⟨hp, hB⟩ hK
          have hBw : Below w.heap.size w W := HAL.out.trans ((hB2'.out.mono (by omega)).trans (hB.mono (by omega)))
          have bR : Boxed W (w.heap.size + 1) 4 (.bool false) := (hB.block _ (by omega)).trans ((hB2'.out.block _ (by omega)).trans HB1.out)
          have hdt : d = true := by
            rw [HA.out]
            exact all_of_rows hq6.1 (by rw [HL.out, HNQ.out]) fun i hi => hp ⟨i, hi⟩ (CameK.mem hS _)
          subst hdt
          have cR := bR.cell
          have fR := bR.frozen
          have HBR := Lib.hid bR
          have HBW := Lib.hid hBw
          have HK := Lib.hid hK
          clear bR hBw hK hB hp
          gi_wp2
          have hK' := (KeepsOthers.setCell W ⟨w.heap.size + 1, 0, none⟩ (.bool true)).same D _ HK.out rfl
          exact marks_ret1 rfl hK' (results_bool rfl _ _ (w.heap.size + 1) 4 _ rfl (boxed_put (HBR.out.set _) (by omega) _) Tryd.underlying4) ⟨rfl, below_put (HBW.out.setCell (by simp) _) (by omega) hK' _⟩
        case stop =>
          rintro D c pre W hD _ ⟨⟨rfl, rfl, bR⟩, hB⟩ hK
          gi_wp2
          exact marks_ret1 rfl hK (results_bool rfl _ _ (w.heap.size + 1) 4 _ rfl (boxed_put bR (by omega) _) Tryd.underlying4) ⟨rfl, below_put hB (by omega) hK _⟩
      · have hdf : d = false := by rw [HD.out]; exact matOkB_l (by rw [HL.out]; exact hn)
        subst hdf
        obtain ⟨P, hP⟩ : ∃ P, r * c = P := ⟨_, rfl⟩
        have hw : wrap64 (r * c) = P := by rw [IntWalk.wrap64_in (r * c) (by omega)]; exact hP
        rw [hP] at hn
        have hne : ((n : Int) == P) = false := by simpa using hn
        clear hn hp hP hr hc
        gi_wp2
        exact marks_ret rfl (results_bool rfl _ _ _ _ _ rfl HB1.out Tryd.underlying4) ⟨rfl, HAL.out⟩
end Go.Proofs.YtmnienebcedfoaaDoor
