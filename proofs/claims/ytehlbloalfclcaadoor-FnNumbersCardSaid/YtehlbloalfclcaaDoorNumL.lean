/-
  The law on numbers.
-/
import Derived.Test.YtehlbloalfclcaaDoorNumW0
import Derived.Test.YtehlbloalfclcaaDoorNumW1
namespace Go.Proofs.YtehlbloalfclcaaDoor
open Go.RowKit
set_option linter.unusedVariables false

theorem itoa_len21 (n : Int) (h0 : -9223372036854775808 ≤ n) (h1 : n ≤ 9223372036854775807) : (Lib.itoa n).length ≤ 21 := by
  by_cases hn : n < 0
  · rw [itoa_neg' hn, List.length_cons]
    have := decDigits_len20 (u := n.natAbs) (by omega)
    omega
  · rw [itoa_pos' hn]
    have := decDigits_len20 (u := n.toNat) (by omega)
    omega
/-- A slice of bytes that came in, as a code. -/
theorem codeRow (W : World) (x : Addr) (len : Nat) (zs : List Int) (hl : len ≤ zs.length) (hcell : ∀ i, i < zs.length → W.cell? (x.add i) = some (.int .u8 (zs.getD i 0))) (hwz : ∀ n ∈ zs, (Lit.int .u8 n).wf = true) :
    ∃ bs : List UInt8, bs.length = len ∧ ∀ j (hj : j < bs.length), ∃ b o, (some x : Option Addr) = some ⟨b, o, none⟩ ∧ b < W.heap.size ∧ W.cell? ⟨b, o + j, none⟩ = some (.int .u8 (bs[j].toNat : Int)) := by
  refine ⟨(zs.take len).map (fun n => UInt8.ofNat n.toNat), by simp [hl], fun j hj => ?_⟩
  have hj' : j < len := by simpa [hl] using hj
  obtain ⟨b, off, spot⟩ := x
  have hc := hcell j (by omega)
  have hspot : spot = none := by
    have := World.cell?_spot (hcell 0 (by omega))
    simpa [Addr.add] using this
  subst hspot
  rw [Addr.add_lit] at hc
  have hg : zs.getD j 0 = zs[j] := by simp [List.getD, (by omega : j < zs.length)]
  have hb := bounds_u8 (hwz zs[j] (List.getElem_mem _))
  refine ⟨b, off, rfl, World.block_lt_of_cell? W _ hc, ?_⟩
  rw [hc, hg]
  have e : ((zs.take len).map (fun n => UInt8.ofNat n.toNat))[j] = UInt8.ofNat zs[j].toNat := by simp
  rw [e, u8_ofNat_toNat _ (by omega)]
  congr 2
  omega

set_option maxRecDepth 100000 in
theorem lawNumbers_big (w : World) (a : Option Addr) (len cap : Nat) (hbig : 1048576 < len) (hm : len ≤ 9223372036854775807) :
    Calls Tryd.prog 3 #[.slice a len cap] w fun e w' => e = .returned (.bool true) ∧ Below w.heap.size w w' := by
  go_enter Tryd.func3, Tryd.ntmps3
  go_wp2_with fail
  refine (big_yes a len cap hbig hm _).mono ?_
  rintro e w' ⟨rfl, rfl⟩
  go_wp2_with fail
  go_ret
  exact ⟨rfl, Below.refl _ _⟩

theorem lawNumbers_small (w : World) (a : Option Addr) (cap : Nat) (bs : List UInt8) (hroom : bs.length ≤ 1048576)
    (hcode : ∀ j (hj : j < bs.length), ∃ b o, a = some ⟨b, o, none⟩ ∧ b < w.heap.size ∧ w.cell? ⟨b, o + j, none⟩ = some (.int .u8 (bs[j].toNat : Int))) (hL : LaidW w) :
    Calls Tryd.prog 3 #[.slice a bs.length cap] w fun e w' => e = .returned (.bool true) ∧ Below w.heap.size w w' := by
  have hc : CodeIn w.heap.size w a bs := ⟨hroom, hcode⟩
  obtain ⟨n, hn⟩ : ∃ n, drawVarF bs = n := ⟨_, rfl⟩
  have hnr : -9223372036854775808 ≤ n ∧ n ≤ 9223372036854775807 := by
    rcases hq : numF bs (newSt bs) with ⟨x, s1⟩
    have := numF_range hq
    rw [drawVarF, hq] at hn
    rw [← hn]
    exact this
  have hT : (drawHexF bs).length ≤ 40 := drawHexF_length bs
  have hTs : (⟨(drawHexF bs).toArray⟩ : ByteArray).size ≤ 40 := hT
  have hS := varI_size n
  have hF : (fixI n 7).size ≤ 7 := by
    unfold fixI
    split
    · unfold fixW
      split
      · exact Nat.le_of_eq (fixL_length _ _)
      · decide
    · decide
  have hds := itoa_len21 n hnr.1 hnr.2
  have hdss : (⟨(Lib.itoa n).toArray⟩ : ByteArray).size ≤ 21 := hds
  have hRs := drawReadVarF_size bs
  have HD1 : Tells w 7 #[.slice a bs.length cap] (.int .i64 n) := tells_of fun v hb => by
    have := drawVar_at w.heap.size v a cap bs hb.size (hc.below hb)
    rwa [hn] at this
  have HD2 : Tells w 8 #[.slice a bs.length cap] (.string ⟨(drawHexF bs).toArray⟩) := tells_of fun v hb => drawHex_at w.heap.size v a cap bs hb.size (hc.below hb)
  have HV : Tells w 9 #[.int .i64 n] (.string (varI n)) := tells_of fun v _ => implVar_any n v
  have HRV : Tells w 10 #[.string (varI n ++ (⟨(drawHexF bs).toArray⟩ : ByteArray))] (.tuple #[.int .i64 (rvN (varI n ++ (⟨(drawHexF bs).toArray⟩ : ByteArray))), .int .i64 (rvK (varI n ++ (⟨(drawHexF bs).toArray⟩ : ByteArray)))]) :=
    tells_same fun v => implReadVar_any _ v (by rw [ByteArray.size_append]; omega)
  have HF : Tells w 11 #[.int .i64 n, .int .i64 7] (.string (fixI n 7)) := tells_of fun v _ => implFixed_any n 7 v hnr.2
  have HRF : Tells w 12 #[.string (fixI n 7 ++ (⟨(drawHexF bs).toArray⟩ : ByteArray)), .int .i64 7] (.tuple #[.int .i64 (rfN (fixI n 7 ++ (⟨(drawHexF bs).toArray⟩ : ByteArray)) 7), .bool (rfB (fixI n 7 ++ (⟨(drawHexF bs).toArray⟩ : ByteArray)) 7)]) :=
    tells_same fun v => implReadFixed_any _ 7 v (by rw [ByteArray.size_append]; omega)
  have HDC : Tells w 14 #[.int .i64 n] (.string ⟨(Lib.itoa n).toArray⟩) := tells_of fun v hb => implDec_any n v hnr.1 hnr.2 (hL.below hb).t
  have HRD : Tells w 13 #[.string ⟨(Lib.itoa n).toArray⟩] (.tuple #[.int .i64 (rdN ⟨(Lib.itoa n).toArray⟩), .bool (rdB ⟨(Lib.itoa n).toArray⟩)]) := tells_of fun v hb => implReadDec_any _ v (by omega) (hL.below hb)
  have HHX : Tells w 16 #[.string ⟨(drawHexF bs).toArray⟩] (.string ⟨(hexL (drawHexF bs)).toArray⟩) := tells_of fun v _ => implHex_any _ v (by omega)
  have hhs : (⟨(hexL (drawHexF bs)).toArray⟩ : ByteArray).size = 2 * (drawHexF bs).length := hexL_length _
  have HUX : Tells w 15 #[.string ⟨(hexL (drawHexF bs)).toArray⟩] (.tuple #[.string ⟨(drawHexF bs).toArray⟩, .bool true]) := tells_of fun v _ => by
    have := implUnhex_even ⟨(hexL (drawHexF bs)).toArray⟩ v (by omega) (by omega)
    rwa [(un_hex (drawHexF bs)).1, (un_hex (drawHexF bs)).2] at this
  have HDR : Tells w 17 #[.slice a bs.length cap] (.string (drawReadVarF bs)) := tells_of fun v hb => drawReadVar_at w.heap.size v a cap bs hb.size (hc.below hb)
  have HRR : Tells w 10 #[.string (drawReadVarF bs)] (.tuple #[.int .i64 (rvN (drawReadVarF bs)), .int .i64 (rvK (drawReadVarF bs))]) := tells_same fun v => implReadVar_any _ v (by omega)
  have HVZ : Tells w 9 #[.int .i64 (rvN (drawReadVarF bs))] (.string (varI (rvN (drawReadVarF bs)))) := tells_of fun v _ => implVar_any _ v
  have hrest := rv_any (drawReadVarF bs)
  have hv := fun h0 h1 => rv_var (n := n) h0 h1 ⟨(drawHexF bs).toArray⟩
  have hf := fun h0 h1 => fix_yes (n := n) h0 h1 ⟨(drawHexF bs).toArray⟩
  have hdy := fun h => rd_itoa_yes (n := n) h
  have hdn := fun h => rd_itoa_no (n := n) h
  have hse := varI_none (n := n)
  have hss := fun h0 h1 => varI_some (n := n) h0 h1
  have hfn := fix_no (n := n)
  generalize hgV : varI (rvN (drawReadVarF bs)) = V at HVZ hrest
  generalize hgR : drawReadVarF bs = R at HDR HRR HVZ hrest hRs
  generalize hgZ : rvN R = Z at HRR HVZ hrest
  generalize hgJ : rvK R = J at HRR hrest
  generalize hgT : (⟨(drawHexF bs).toArray⟩ : ByteArray) = T at HD2 HRV HRF HHX HUX hv hf hTs
  generalize hgX : (⟨(hexL (drawHexF bs)).toArray⟩ : ByteArray) = HX at HHX HUX
  generalize hgD : (⟨(Lib.itoa n).toArray⟩ : ByteArray) = DS at HDC HRD hdy hdn
  generalize hgS : varI n = S at HV HRV hv hse hss hS
  generalize hgF : fixI n 7 = F at HF HRF hf hfn hF
  clear hgV hgR hgZ hgJ hgT hgX hgD hgS hgF hn hc hcode hL hT hds hdss hRs hhs
  have hfe : F.size = 7 → F.toList.isEmpty = false := fun h => by rw [isEmpty_toList, h]; rfl
  have c1000 : ∀ z : Int, 1000000000 ≤ z → decide (z < 1000000000) = false := fun z hz => by simp; omega
  have cmax : ∀ z : Int, 562949953421311 < z → decide (z ≤ 562949953421311) = false := fun z hz => by simp; omega
  rcases hrest with ⟨hz0, hj0⟩ | ⟨j, hj, hj1, hj2, hjv⟩
  · rw [hj0] at HRR
    by_cases a1 : n < 0
    · by_cases a2 : -1000000000 < n
      · have h := hdy ⟨a2, by omega⟩
        rw [h.1, h.2] at HRD
        exact num_p4s_0 w a cap bs hroom n S T F HX R V _ _ _ 0 Z 0 _ true DS hS hTs hF HD1 HD2 HV HRV HF HRF HDC HRD HHX HUX HDR HRR HVZ a1 (hse (Or.inl a1)) (hfn (Or.inl a1)) a2 (by omega)
      · rw [hdn (by omega)] at HRD
        exact num_p4b_0 w a cap bs hroom n S T F HX R V _ _ _ _ Z 0 _ false DS hS hTs hF HD1 HD2 HV HRV HF HRF HDC HRD HHX HUX HDR HRR HVZ a1 (hse (Or.inl a1)) (hfn (Or.inl a1)) (by omega) (by omega)
    · by_cases b1 : n ≤ 562949953421311
      · have h := hv (by omega) b1
        rw [h.1, h.2] at HRV
        have h' := hf (by omega) (by omega)
        rw [h'.2.1, h'.2.2] at HRF
        by_cases a2 : n < 1000000000
        · have h2 := hdy ⟨by omega, a2⟩
          rw [h2.1, h2.2] at HRD
          exact num_p1s_0 w a cap bs hroom n S T F HX R V 0 0 0 0 Z 0 true true DS hS hTs hF HD1 HD2 HV HRV HF HRF HDC HRD HHX HUX HDR HRR HVZ (by omega) b1 (hss (by omega) b1) (hfe h'.1) h'.1 (by omega) a2
        · rw [hdn (by omega)] at HRD
          exact num_p1b_0 w a cap bs hroom n S T F HX R V 0 0 0 _ Z 0 true false DS hS hTs hF HD1 HD2 HV HRV HF HRF HDC HRD HHX HUX HDR HRR HVZ (by omega) b1 (hss (by omega) b1) (hfe h'.1) h'.1 (by omega) (by omega) (c1000 n (by omega))
      · rw [hdn (by omega)] at HRD
        by_cases b2 : n < 72057594037927936
        · have h' := hf (by omega) b2
          rw [h'.2.1, h'.2.2] at HRF
          exact num_p2_0 w a cap bs hroom n S T F HX R V _ _ 0 _ Z 0 true false DS hS hTs hF HD1 HD2 HV HRV HF HRF HDC HRD HHX HUX HDR HRR HVZ (by omega) (by omega) b2 (cmax n (by omega)) (hse (Or.inr (by omega))) (hfe h'.1) h'.1 (by omega) (by omega) (c1000 n (by omega))
        · exact num_p3_0 w a cap bs hroom n S T F HX R V _ _ _ _ Z 0 _ false DS hS hTs hF HD1 HD2 HV HRV HF HRF HDC HRD HHX HUX HDR HRR HVZ (by omega) (by omega) (by omega) (cmax n (by omega)) (hse (Or.inr (by omega))) (hfn (Or.inr (by omega))) (by omega) (by omega) (c1000 n (by omega))
  · have q0 : 0 < J := by omega
    have q1 : J ≤ (R.size : Int) := by omega
    have q2 : (J == 0) = false := by rw [beq_eq_false_iff_ne]; omega
    have q3 : (V.toList == (R.extract 0 J.toNat).toList) = true := by rw [hj, Int.toNat_natCast]; exact hjv
    by_cases a1 : n < 0
    · by_cases a2 : -1000000000 < n
      · have h := hdy ⟨a2, by omega⟩
        rw [h.1, h.2] at HRD
        exact num_p4s_1 w a cap bs hroom n S T F HX R V _ _ _ 0 Z J _ true DS hS hTs hF HD1 HD2 HV HRV HF HRF HDC HRD HHX HUX HDR HRR HVZ a1 (hse (Or.inl a1)) (hfn (Or.inl a1)) a2 (by omega) q0 q1 q2 q3
      · rw [hdn (by omega)] at HRD
        exact num_p4b_1 w a cap bs hroom n S T F HX R V _ _ _ _ Z J _ false DS hS hTs hF HD1 HD2 HV HRV HF HRF HDC HRD HHX HUX HDR HRR HVZ a1 (hse (Or.inl a1)) (hfn (Or.inl a1)) (by omega) (by omega) q0 q1 q2 q3
    · by_cases b1 : n ≤ 562949953421311
      · have h := hv (by omega) b1
        rw [h.1, h.2] at HRV
        have h' := hf (by omega) (by omega)
        rw [h'.2.1, h'.2.2] at HRF
        by_cases a2 : n < 1000000000
        · have h2 := hdy ⟨by omega, a2⟩
          rw [h2.1, h2.2] at HRD
          exact num_p1s_1 w a cap bs hroom n S T F HX R V 0 0 0 0 Z J true true DS hS hTs hF HD1 HD2 HV HRV HF HRF HDC HRD HHX HUX HDR HRR HVZ (by omega) b1 (hss (by omega) b1) (hfe h'.1) h'.1 (by omega) a2 q0 q1 q2 q3
        · rw [hdn (by omega)] at HRD
          exact num_p1b_1 w a cap bs hroom n S T F HX R V 0 0 0 _ Z J true false DS hS hTs hF HD1 HD2 HV HRV HF HRF HDC HRD HHX HUX HDR HRR HVZ (by omega) b1 (hss (by omega) b1) (hfe h'.1) h'.1 (by omega) (by omega) (c1000 n (by omega)) q0 q1 q2 q3
      · rw [hdn (by omega)] at HRD
        by_cases b2 : n < 72057594037927936
        · have h' := hf (by omega) b2
          rw [h'.2.1, h'.2.2] at HRF
          exact num_p2_1 w a cap bs hroom n S T F HX R V _ _ 0 _ Z J true false DS hS hTs hF HD1 HD2 HV HRV HF HRF HDC HRD HHX HUX HDR HRR HVZ (by omega) (by omega) b2 (cmax n (by omega)) (hse (Or.inr (by omega))) (hfe h'.1) h'.1 (by omega) (by omega) (c1000 n (by omega)) q0 q1 q2 q3
        · exact num_p3_1 w a cap bs hroom n S T F HX R V _ _ _ _ Z J _ false DS hS hTs hF HD1 HD2 HV HRV HF HRF HDC HRD HHX HUX HDR HRR HVZ (by omega) (by omega) (by omega) (cmax n (by omega)) (hse (Or.inr (by omega))) (hfn (Or.inr (by omega))) (by omega) (by omega) (c1000 n (by omega)) q0 q1 q2 q3

theorem lawNumbers (w : World) (a : Option Addr) (len cap : Nat) (hm : len ≤ 9223372036854775807) (hL : LaidW w)
    (hb : ∃ bs : List UInt8, bs.length = len ∧ ∀ j (hj : j < bs.length), ∃ b o, a = some ⟨b, o, none⟩ ∧ b < w.heap.size ∧ w.cell? ⟨b, o + j, none⟩ = some (.int .u8 (bs[j].toNat : Int))) :
    Calls Tryd.prog 3 #[.slice a len cap] w fun e w' => e = .returned (.bool true) ∧ Below w.heap.size w w' := by
  by_cases hbig : 1048576 < len
  · exact lawNumbers_big w a len cap hbig hm
  · obtain ⟨bs, rfl, hcode⟩ := hb
    exact lawNumbers_small w a cap bs (by omega) hcode hL
end Go.Proofs.YtehlbloalfclcaaDoor
