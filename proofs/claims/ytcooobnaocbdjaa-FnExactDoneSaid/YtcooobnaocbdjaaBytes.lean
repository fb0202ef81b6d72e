/-
  Plain facts on bytes, cells of bytes, and splices; nothing of the program.
-/
import Derived.WalkKit
import Derived.Laws.CopyOwn
import Derived.Laws.IdiomStrings
import Derived.Lib.Hide
namespace Go.Proofs.Ytcooobnaocbdjaa
open Go.RowKit

/-- The cells of a list of bytes. -/
def bcells (l : List UInt8) : List Value := l.map (fun b => Value.int .u8 (b.toNat : Int))
theorem bcells_length (l : List UInt8) : (bcells l).length = l.length := by simp [bcells]
theorem bcells_append (a b : List UInt8) : bcells (a ++ b) = bcells a ++ bcells b := by simp [bcells]
theorem bcells_get (l : List UInt8) (j : Nat) (h : j < l.length) : (bcells l)[j]? = some (.int .u8 (l[j].toNat : Int)) := by simp [bcells, h]
theorem bcells_one (l : List UInt8) : ∀ u ∈ bcells l, u.oneCell' = true := by
  intro u hu
  obtain ⟨_, _, rfl⟩ := List.mem_map.1 hu
  rfl
theorem splice_zero {α : Type} (L cs : List α) : splice L 0 cs = cs ++ L.drop cs.length := by simp [splice]
theorem splice_take {α : Type} (L cs : List α) (n : Nat) (xs : List α) (hx : L.take n = xs) (hn : xs.length = n) : (splice L n cs).take (n + cs.length) = xs ++ cs := by
  simp only [splice, hx]
  rw [← List.append_assoc, List.take_append_of_le_length (by simp; omega)]
  exact List.take_of_length_le (by simp; omega)
/-- 'string([]byte{b})': the one-cell row has just been laid. -/
theorem conv_one {P : Program} (w : World) (src dst e : TypeId) (hs : P.underlying src = some (.slice e)) (he : P.underlying e = some (.int .u8)) (hd : P.underlying dst = some .string)
    (x : Int) (b : UInt8) (hx : x = (b.toNat : Int)) :
    (convert src dst (.slice (some ⟨w.heap.size, 0, none⟩) 1 1)).run P (w.alloc (.cells #[.int .u8 x] e)) = .ok (.string ⟨#[b]⟩) (w.alloc (.cells #[.int .u8 x] e)) := by
  subst hx
  refine run_convert_bytes_back _ src dst e ⟨w.heap.size, 0, none⟩ 1 [b] hs he hd ?_
  intro j hj
  have : j = 0 := by simpa using hj
  subst this
  rw [Addr.add_lit, Nat.add_zero]
  rw [cell_of_row _ _ _ _ _ _ (heap_alloc_new w _)]
  simp
theorem u8_ofNat_toNat (n : Nat) (h : n < 256) : (UInt8.ofNat n).toNat = n := by simp; omega
theorem bytes_append (a b : List UInt8) : ((⟨a.toArray⟩ : ByteArray) ++ (⟨b.toArray⟩ : ByteArray)) = ⟨(a ++ b).toArray⟩ := by
  rw [ByteArray.mk_append_mk]
/-- The cells of a one-cell row that has just been laid. -/
theorem cell_one_put (w : World) (e : TypeId) (x : Int) (b : UInt8) (hx : x = (b.toNat : Int)) :
    ∀ j u, (bcells [b])[j]? = some u → (w.alloc (.cells #[.int .u8 x] e)).cell? ⟨w.heap.size, j, none⟩ = some u := by
  intro j u hu
  subst hx
  rw [cell_of_row _ _ _ _ _ _ (heap_alloc_new w _)]
  simpa [bcells] using hu
/-- 'string(b)', b a row of the call's own. -/
theorem own_string {P : Program} {w : World} {B e : Nat} {v : Value} {n : Nat} {l : List UInt8} (src dst : TypeId) (hs : P.underlying src = some (.slice e)) (he : P.underlying e = some (.int .u8)) (hd : P.underlying dst = some .string)
    (hown : w.ownsRow B e 1 v n (bcells l)) : (convert src dst v).run P w = .ok (.string ⟨l.toArray⟩) w := by
  have hl : l.length = n := by have := hown.1; rw [bcells_length] at this; omega
  have hcs := fun g (h : v.ownBlock = some g) => hown.cells (g := g) h
  rcases hown.2 with ⟨rfl, rfl⟩ | ⟨g, cap, cur, rfl, hBg, hg, hnc, hcm, hcs1, htake⟩
  · obtain rfl : l = [] := List.eq_nil_of_length_eq_zero hl
    rw [run_convert_bytes_string w src dst e none 0 0 hs he hd]
    simp [Conv.bytesToString, Sem.run_pure]
    rfl
  · subst hl
    exact run_convert_bytes_back w src dst e _ cap l hs he hd fun j hj => hcs g rfl j _ (bcells_get l j hj)
/-- 'x | y' where y lies below x's lowest bit. -/
theorem i64_join (i : Nat) (hi : i ≤ 62) (x y : Int) (hx0 : 0 ≤ x) (hx : x % 2 ^ i = 0) (hx1 : x < 4611686018427387904) (hy0 : 0 ≤ y) (hy : y < 2 ^ i) : bits .or .i64 x y = x + y := by
  have h62 : (2 : Int) ^ 62 = 4611686018427387904 := by decide
  have hp : (2 : Int) ^ i ≤ 2 ^ 62 := by
    have := Nat.pow_le_pow_right (n := 2) (by decide) hi
    exact_mod_cast this
  refine bits_join .i64 62 (by decide) (fun n h0 h1 => ?_) i x y hx0 hx (by omega) hy0 hy (by omega)
  rw [IntKind.wrap_i64]
  omega
end Go.Proofs.Ytcooobnaocbdjaa
