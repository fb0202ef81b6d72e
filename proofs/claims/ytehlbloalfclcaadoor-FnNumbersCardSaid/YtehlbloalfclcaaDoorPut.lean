/-
  The contract of impl.put: bytes put behind a row of the call's own.
-/
import Derived.Test.YtehlbloalfclcaaDoorProg
import Derived.Test.YtehlbloalfclcaaDoorBytes
import Derived.Lib.Hide
import Derived.WalkSpells
import Derived.WalkLawsBesides
import Derived.Deep.QuietTactic
import Derived.BigQuiet
namespace Go.Proofs.YtehlbloalfclcaaDoor
open Go.RowKit

theorem Tryd.infoU8 : (Tryd.prog.info? 5).map (fun i => (i.zero, i.size, i.bytes)) = some (some (.int .u8 0), 1, 1) := by kernel_rfl

/-- There is room. -/
theorem put_room (B b m c n g cap : Nat) (ms : List UInt8) (cur : List Value) (w : World)
    (hg : w.heap[g]? = some (.cells cur.toArray 5 (0, 0))) (hcap : cur.length = cap) (hB : B ≤ g)
    (hroom : n + m ≤ cap) (hm : ms.length = m) (hpos : 0 < m) (hmax : cap ≤ 9223372036854775807)
    (hc : ∀ j u, (bcells ms)[j]? = some u → w.cell? ⟨b, j, none⟩ = some u) :
    Calls Tryd.prog 23 #[.slice (some ⟨g, 0, none⟩) n cap, .slice (some ⟨b, 0, none⟩) m c] w fun e w' =>
      e = .returned (.slice (some ⟨g, 0, none⟩) (n + m) cap) ∧ w'.heap[g]? = some (.cells (splice cur n (bcells ms)).toArray 5 (0, 0)) ∧ Below B w w' := by
  obtain ⟨i0, hi, hz0, hz1, hz2⟩ := info_parts Tryd.infoU8
  have HG := Lib.hid hg
  have HC := Lib.hid hcap
  clear hg hcap
  have hp1 : ((n : Int) + (m : Int) > (cap : Int)) = False := by simp; omega
  go_enter Tryd.func23, Tryd.ntmps23
  go_wp2_with (with_reducible refine wpList_copy_splice rfl (.tmp 29) (.tmp 30) 22 22 rfl 5 Tryd.underlying22 (by rw [hi]; simp [hz1]) _ _ _ _ _ _ rfl rfl g n cur 5 HG.out (bcells ms) ?c1 ?c2 ?c3 (bcells_one ms) B w (Below.refl _ _) hB ?_)
  case c1 => rw [bcells_length, hm]; show m = min m (n + m - n); omega
  case c2 => exact fun _ j u hu => hc j u hu
  case c3 => rw [bcells_length, hm]; have := HC.out; omega
  intro w2 hg2 hb2
  go_wp2
  go_ret
  exact ⟨rfl, hg2.out, hb2⟩

/-- There is no room: a wider row is made. -/
theorem put_wider (B b m c n cap : Nat) (a : Option Addr) (xs ms : List UInt8) (w : World)
    (hxn : xs.length = n) (hB : B ≤ w.heap.size) (hb : b < w.heap.size)
    (hroom : cap < n + m) (hnc : n ≤ cap) (hm : ms.length = m) (hpos : 0 < m) (hmax : n + m ≤ 70368744177664)
    (hc : ∀ j u, (bcells ms)[j]? = some u → w.cell? ⟨b, j, none⟩ = some u)
    (hs : 0 < n → ∃ g, a = some ⟨g, 0, none⟩ ∧ g < w.heap.size ∧ ∀ j u, (bcells xs)[j]? = some u → w.cell? ⟨g, j, none⟩ = some u) :
    Calls Tryd.prog 23 #[.slice a n cap, .slice (some ⟨b, 0, none⟩) m c] w fun e w' =>
      e = .returned (.slice (some ⟨w.heap.size, 0, none⟩) (n + m) (2 * (n + m))) ∧ w'.ownsRow B 5 1 (.slice (some ⟨w.heap.size, 0, none⟩) (n + m) (2 * (n + m))) (n + m) (bcells (xs ++ ms)) ∧ Below B w w' := by
  obtain ⟨i0, hi, hz0, hz1, hz2⟩ := info_parts Tryd.infoU8
  have hmk := fun (w : World) => run_make (P := Tryd.prog) w 22 5 i0 (.int .u8 0) Tryd.underlying22 hi hz0 .i64 .i64 n (2 * ((n : Int) + m)) (by omega) (by omega) (by rw [hz2]; omega) (by omega)
  obtain ⟨Z, hZ⟩ : ∃ Z, Z = madeCells (Value.cells (.int .u8 0)) ((2 * ((n : Int) + m)).toNat * i0.size) := ⟨_, rfl⟩
  have hZs : Z.size = 2 * (n + m) := by rw [hZ, size_madeCells, hz1]; omega
  rw [← hZ] at hmk
  have HZ := Lib.hid hZs
  have HX := Lib.hid hxn
  clear hZs hZ hxn
  go_enter Tryd.func23, Tryd.ntmps23
  go_wp2_with (with_reducible refine wpList_copy_splice rfl (.tmp 21) (.tmp 22) 22 22 rfl 5 Tryd.underlying22 (by rw [hi]; simp [hz1]) _ _ _ _ _ _ rfl rfl w.heap.size 0 Z.toList 5 (heap_alloc_new w _) (bcells xs) ?c1 ?c2 ?c3 (bcells_one xs) w.heap.size w ((Below.refl _ _).alloc (Nat.le_refl _) _) (Nat.le_refl _) ?_)
  case c1 => rw [bcells_length, HX.out]; show n = min n n; omega
  case c2 => 
    intro hpos
    rw [bcells_length, HX.out] at hpos
    obtain ⟨g, hga, hgl, hgc⟩ := hs hpos
    exact ⟨⟨g, 0, none⟩, hga, fun j u hu => (((Below.refl w.heap.size w).alloc (Nat.le_refl _) _).cell (by simp [Addr.add_lit]; omega)).trans (by rw [Addr.add_lit]; simpa using hgc j u hu)⟩
  case c3 => rw [bcells_length, HX.out]; simp [HZ.out]; omega
  intro w2 hg2 hb2
  have hcell : ∀ j u, (bcells ms)[j]? = some u → w2.cell? ⟨b, j, none⟩ = some u := fun j u hu => (hb2.cell (by simpa using hb)).trans (hc j u hu)
  have hsz := hb2.size
  go_wp2_with (with_reducible refine wpList_copy_splice rfl (.tmp 29) (.tmp 30) 22 22 rfl 5 Tryd.underlying22 (by rw [hi]; simp [hz1]) _ _ _ _ _ _ rfl rfl w.heap.size n _ 5 hg2.out (bcells ms) ?d1 ?d2 ?d3 (bcells_one ms) w.heap.size w hb2 (Nat.le_refl _) ?_)
  case d1 => rw [bcells_length, hm]; show m = min m (n + m - n); omega
  case d2 => exact fun _ j u hu => hcell j u hu
  case d3 => 
    rw [bcells_length, hm, length_splice _ _ _ (by rw [bcells_length, HX.out]; simp [HZ.out]; omega)]
    simp [HZ.out]; omega
  intro w3 hg3 hb3
  go_wp2
  go_ret
  have hl : (splice Z.toList 0 (bcells xs)).length = 2 * (n + m) := by rw [length_splice _ _ _ (by rw [bcells_length, HX.out]; simp [HZ.out]; omega)]; simp [HZ.out]
  refine ⟨rfl, ⟨by rw [bcells_length]; simp [HX.out, hm], .inr ⟨_, _, _, rfl, hB, hg3.out, by omega, by unfold maxLen; omega, ?_, ?_⟩⟩, hb3.mono hB⟩
  · rw [List.size_toArray, length_splice _ _ _ (by rw [hl, bcells_length, hm]; omega), hl]; omega
  · have h1 : (splice Z.toList 0 (bcells xs)).take n = bcells xs := by
      rw [splice_zero, List.take_append_of_le_length (by rw [bcells_length, HX.out]; omega)]
      exact List.take_of_length_le (by rw [bcells_length, HX.out]; omega)
    have h2 := splice_take _ (bcells ms) n (bcells xs) h1 (by rw [bcells_length, HX.out])
    rw [bcells_length, hm] at h2
    simpa [bcells_append] using h2

/-- What put leaves: a row of the call's own with the bytes behind it. -/
def PutPost (B n : Nat) (l : List UInt8) (w : World) (e : Ending) (w' : World) : Prop :=
  ∃ v', e = .returned v' ∧ w'.ownsRow B 5 1 v' n (bcells l) ∧ Below B w w'

theorem put_own (B b m c n : Nat) (v : Value) (xs ms : List UInt8) (w : World) (hown : w.ownsRow B 5 1 v n (bcells xs))
    (hB : B ≤ w.heap.size) (hb : b < w.heap.size) (hm : ms.length = m) (hpos : 0 < m) (hmax : n + m ≤ 70368744177664)
    (hc : ∀ j u, (bcells ms)[j]? = some u → w.cell? ⟨b, j, none⟩ = some u) :
    Calls Tryd.prog 23 #[v, .slice (some ⟨b, 0, none⟩) m c] w (PutPost B (n + m) (xs ++ ms) w) := by
  have hlen : xs.length = n := by have := hown.1; rw [bcells_length] at this; omega
  have hcs := fun g (h : v.ownBlock = some g) => hown.cells (g := g) h
  rcases hown.2 with ⟨rfl, rfl⟩ | ⟨g, cap, cur, rfl, hBg, hg, hnc, hcm, hcs1, htake⟩
  · refine (put_wider B b m c 0 0 none xs ms w hlen hB hb (by omega) (Nat.le_refl _) hm hpos hmax hc (fun h => by omega)).mono fun e w' ⟨he, ho, hbl⟩ => ?_
    exact ⟨_, he, ho, hbl⟩
  · by_cases hr : n + m ≤ cap
    · have hcur : cur = (cur.toList).toArray := by simp
      rw [hcur] at hg
      refine (put_room B b m c n g cap ms cur.toList w hg (by simpa using hcs1) hBg hr hm hpos (by unfold maxLen at hcm; omega) hc).mono fun e w' ⟨he, hg', hbl⟩ => ?_
      refine ⟨_, he, ⟨by rw [bcells_length]; simp [hlen, hm], .inr ⟨_, _, _, rfl, hBg, hg', by omega, hcm, ?_, ?_⟩⟩, hbl⟩
      · rw [List.size_toArray, length_splice _ _ _ (by rw [bcells_length, hm]; simp [hcs1]; omega)]; simpa using hcs1
      · have h2 := splice_take cur.toList (bcells ms) n (bcells xs) (by simpa using htake) (by rw [bcells_length, hlen])
        rw [bcells_length, hm] at h2
        simpa [bcells_append] using h2
    · have hgl : g < w.heap.size := (Array.getElem?_eq_some_iff.1 hg).1
      refine (put_wider B b m c n cap (some ⟨g, 0, none⟩) xs ms w hlen hB hb (by omega) hnc hm hpos hmax hc (fun _ => ⟨g, rfl, hgl, fun j u hu => ?_⟩)).mono fun e w' ⟨he, ho, hbl⟩ => ?_
      · have := hcs g rfl j u hu
        rwa [Addr.add_lit, Nat.zero_add] at this
      · exact ⟨_, he, ho, hbl⟩
end Go.Proofs.YtehlbloalfclcaaDoor
