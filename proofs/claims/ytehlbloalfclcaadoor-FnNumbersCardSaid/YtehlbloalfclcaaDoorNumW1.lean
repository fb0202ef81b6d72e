/-
  The law on numbers: its walks (the last text has a number).
-/
import Derived.Test.YtehlbloalfclcaaDoorNumC
namespace Go.Proofs.YtehlbloalfclcaaDoor
open Go.RowKit
set_option linter.unusedVariables false

set_option maxRecDepth 100000 in
set_option maxHeartbeats 1600000 in
theorem num_p1s_1 (w : World) (a : Option Addr) (cap : Nat) (bs : List UInt8) (hroom : bs.length ≤ 1048576) (n : Int) (S T F HX R V : ByteArray) (X K Y DN Z J : Int) (IS FI : Bool) (DS : ByteArray) (hS : S.size ≤ 7) (hT : T.size ≤ 40) (hFs : F.size ≤ 7)
    (HD1 : Tells w 7 #[.slice a bs.length cap] (.int .i64 n))
    (HD2 : Tells w 8 #[.slice a bs.length cap] (.string T))
    (HV : Tells w 9 #[.int .i64 n] (.string S))
    (HRV : Tells w 10 #[.string (S ++ T)] (.tuple #[.int .i64 n, .int .i64 S.size]))
    (HF : Tells w 11 #[.int .i64 n, .int .i64 7] (.string F))
    (HRF : Tells w 12 #[.string (F ++ T), .int .i64 7] (.tuple #[.int .i64 n, .bool true]))
    (HDC : Tells w 14 #[.int .i64 n] (.string DS))
    (HRD : Tells w 13 #[.string DS] (.tuple #[.int .i64 n, .bool true]))
    (HHX : Tells w 16 #[.string T] (.string HX))
    (HUX : Tells w 15 #[.string HX] (.tuple #[.string T, .bool true]))
    (HDR : Tells w 17 #[.slice a bs.length cap] (.string R))
    (HRR : Tells w 10 #[.string R] (.tuple #[.int .i64 Z, .int .i64 J]))
    (HVZ : Tells w 9 #[.int .i64 Z] (.string V))
    (c1 : 0 ≤ n) (c2 : n ≤ 562949953421311) (sE : S.toList.isEmpty = false) (fE : F.toList.isEmpty = false) (f7 : F.size = 7) (d1 : -1000000000 < n) (d2 : n < 1000000000) (hj0 : 0 < J) (hj1 : J ≤ (R.size : Int)) (hjn : (J == 0) = false) (hVR : (V.toList == (R.extract 0 J.toNat).toList) = true) :
    Calls Tryd.prog 3 #[.slice a bs.length cap] w fun e w' => e = .returned (.bool true) ∧ Below w.heap.size w w' := by
  have HD1' := Lib.hid HD1
  have HD2' := Lib.hid HD2
  have HV' := Lib.hid HV
  have HRV' := Lib.hid HRV
  have HF' := Lib.hid HF
  have HRF' := Lib.hid HRF
  have HDC' := Lib.hid HDC
  have HRD' := Lib.hid HRD
  have HHX' := Lib.hid HHX
  have HUX' := Lib.hid HUX
  have HDR' := Lib.hid HDR
  have HRR' := Lib.hid HRR
  have HVZ' := Lib.hid HVZ
  have HR0 := Lib.hid hroom
  clear HD1 HD2 HV HRV HF HRF HDC HRD HHX HUX HDR HRR HVZ
  go_enter Tryd.func3, Tryd.ntmps3
  go_wp2_with fail
  refine (big_no a cap bs HR0.out _).mono ?_
  rintro e w' ⟨rfl, rfl⟩
  go_wp2_with fail
  refine (HD1'.out _ (Below.refl _ _)).mono ?_
  rintro e v0 ⟨rfl, hb0⟩
  go_wp2_with fail
  refine (HD2'.out _ hb0).mono ?_
  rintro e v1 ⟨rfl, hb1⟩
  go_wp2_with fail
  refine (HV'.out _ hb1).mono ?_
  rintro e v2 ⟨rfl, hb2⟩
  go_wp2_with fail
  refine (HRV'.out _ hb2).mono ?_
  rintro e v3 ⟨rfl, hb3⟩
  go_wp2_with fail
  refine (HF'.out _ hb3).mono ?_
  rintro e v4 ⟨rfl, hb4⟩
  go_wp2_with fail
  refine (HRF'.out _ hb4).mono ?_
  rintro e v5 ⟨rfl, hb5⟩
  go_wp2_with fail
  refine (HDC'.out _ hb5).mono ?_
  rintro e v6 ⟨rfl, hb6⟩
  go_wp2_with fail
  refine (HRD'.out _ hb6).mono ?_
  rintro e v7 ⟨rfl, hb7⟩
  go_wp2_with fail
  refine (HHX'.out _ hb7).mono ?_
  rintro e v8 ⟨rfl, hb8⟩
  go_wp2_with fail
  refine (HUX'.out _ hb8).mono ?_
  rintro e v9 ⟨rfl, hb9⟩
  go_wp2_with fail
  refine (HDR'.out _ hb9).mono ?_
  rintro e v10 ⟨rfl, hb10⟩
  go_wp2_with fail
  refine (HRR'.out _ hb10).mono ?_
  rintro e v11 ⟨rfl, hb11⟩
  go_wp2_with fail
  refine (HDR'.out _ hb11).mono ?_
  rintro e v12 ⟨rfl, hb12⟩
  go_wp2_with fail
  refine (HVZ'.out _ hb12).mono ?_
  rintro e v13 ⟨rfl, hb13⟩
  go_wp2_with fail
  refine (HDR'.out _ hb13).mono ?_
  rintro e v14 ⟨rfl, hb14⟩
  go_wp2_with fail
  go_ret
  exact ⟨rfl, hb14⟩

set_option maxRecDepth 100000 in
set_option maxHeartbeats 1600000 in
theorem num_p1b_1 (w : World) (a : Option Addr) (cap : Nat) (bs : List UInt8) (hroom : bs.length ≤ 1048576) (n : Int) (S T F HX R V : ByteArray) (X K Y DN Z J : Int) (IS FI : Bool) (DS : ByteArray) (hS : S.size ≤ 7) (hT : T.size ≤ 40) (hFs : F.size ≤ 7)
    (HD1 : Tells w 7 #[.slice a bs.length cap] (.int .i64 n))
    (HD2 : Tells w 8 #[.slice a bs.length cap] (.string T))
    (HV : Tells w 9 #[.int .i64 n] (.string S))
    (HRV : Tells w 10 #[.string (S ++ T)] (.tuple #[.int .i64 n, .int .i64 S.size]))
    (HF : Tells w 11 #[.int .i64 n, .int .i64 7] (.string F))
    (HRF : Tells w 12 #[.string (F ++ T), .int .i64 7] (.tuple #[.int .i64 n, .bool true]))
    (HDC : Tells w 14 #[.int .i64 n] (.string DS))
    (HRD : Tells w 13 #[.string DS] (.tuple #[.int .i64 DN, .bool false]))
    (HHX : Tells w 16 #[.string T] (.string HX))
    (HUX : Tells w 15 #[.string HX] (.tuple #[.string T, .bool true]))
    (HDR : Tells w 17 #[.slice a bs.length cap] (.string R))
    (HRR : Tells w 10 #[.string R] (.tuple #[.int .i64 Z, .int .i64 J]))
    (HVZ : Tells w 9 #[.int .i64 Z] (.string V))
    (c1 : 0 ≤ n) (c2 : n ≤ 562949953421311) (sE : S.toList.isEmpty = false) (fE : F.toList.isEmpty = false) (f7 : F.size = 7) (d1 : -1000000000 < n) (d2 : 1000000000 ≤ n) (d3 : decide (n < 1000000000) = false) (hj0 : 0 < J) (hj1 : J ≤ (R.size : Int)) (hjn : (J == 0) = false) (hVR : (V.toList == (R.extract 0 J.toNat).toList) = true) :
    Calls Tryd.prog 3 #[.slice a bs.length cap] w fun e w' => e = .returned (.bool true) ∧ Below w.heap.size w w' := by
  have HD1' := Lib.hid HD1
  have HD2' := Lib.hid HD2
  have HV' := Lib.hid HV
  have HRV' := Lib.hid HRV
  have HF' := Lib.hid HF
  have HRF' := Lib.hid HRF
  have HDC' := Lib.hid HDC
  have HRD' := Lib.hid HRD
  have HHX' := Lib.hid HHX
  have HUX' := Lib.hid HUX
  have HDR' := Lib.hid HDR
  have HRR' := Lib.hid HRR
  have HVZ' := Lib.hid HVZ
  have HR0 := Lib.hid hroom
  clear HD1 HD2 HV HRV HF HRF HDC HRD HHX HUX HDR HRR HVZ
  go_enter Tryd.func3, Tryd.ntmps3
  go_wp2_with fail
  refine (big_no a cap bs HR0.out _).mono ?_
  rintro e w' ⟨rfl, rfl⟩
  go_wp2_with fail
  refine (HD1'.out _ (Below.refl _ _)).mono ?_
  rintro e v0 ⟨rfl, hb0⟩
  go_wp2_with fail
  refine (HD2'.out _ hb0).mono ?_
  rintro e v1 ⟨rfl, hb1⟩
  go_wp2_with fail
  refine (HV'.out _ hb1).mono ?_
  rintro e v2 ⟨rfl, hb2⟩
  go_wp2_with fail
  refine (HRV'.out _ hb2).mono ?_
  rintro e v3 ⟨rfl, hb3⟩
  go_wp2_with fail
  refine (HF'.out _ hb3).mono ?_
  rintro e v4 ⟨rfl, hb4⟩
  go_wp2_with fail
  refine (HRF'.out _ hb4).mono ?_
  rintro e v5 ⟨rfl, hb5⟩
  go_wp2_with fail
  refine (HDC'.out _ hb5).mono ?_
  rintro e v6 ⟨rfl, hb6⟩
  go_wp2_with fail
  refine (HRD'.out _ hb6).mono ?_
  rintro e v7 ⟨rfl, hb7⟩
  go_wp2_with fail
  refine (HHX'.out _ hb7).mono ?_
  rintro e v8 ⟨rfl, hb8⟩
  go_wp2_with fail
  refine (HUX'.out _ hb8).mono ?_
  rintro e v9 ⟨rfl, hb9⟩
  go_wp2_with fail
  refine (HDR'.out _ hb9).mono ?_
  rintro e v10 ⟨rfl, hb10⟩
  go_wp2_with fail
  refine (HRR'.out _ hb10).mono ?_
  rintro e v11 ⟨rfl, hb11⟩
  go_wp2_with fail
  refine (HDR'.out _ hb11).mono ?_
  rintro e v12 ⟨rfl, hb12⟩
  go_wp2_with fail
  refine (HVZ'.out _ hb12).mono ?_
  rintro e v13 ⟨rfl, hb13⟩
  go_wp2_with fail
  refine (HDR'.out _ hb13).mono ?_
  rintro e v14 ⟨rfl, hb14⟩
  go_wp2_with fail
  go_ret
  exact ⟨rfl, hb14⟩

set_option maxRecDepth 100000 in
set_option maxHeartbeats 1600000 in
theorem num_p2_1 (w : World) (a : Option Addr) (cap : Nat) (bs : List UInt8) (hroom : bs.length ≤ 1048576) (n : Int) (S T F HX R V : ByteArray) (X K Y DN Z J : Int) (IS FI : Bool) (DS : ByteArray) (hS : S.size ≤ 7) (hT : T.size ≤ 40) (hFs : F.size ≤ 7)
    (HD1 : Tells w 7 #[.slice a bs.length cap] (.int .i64 n))
    (HD2 : Tells w 8 #[.slice a bs.length cap] (.string T))
    (HV : Tells w 9 #[.int .i64 n] (.string S))
    (HRV : Tells w 10 #[.string (S ++ T)] (.tuple #[.int .i64 X, .int .i64 K]))
    (HF : Tells w 11 #[.int .i64 n, .int .i64 7] (.string F))
    (HRF : Tells w 12 #[.string (F ++ T), .int .i64 7] (.tuple #[.int .i64 n, .bool true]))
    (HDC : Tells w 14 #[.int .i64 n] (.string DS))
    (HRD : Tells w 13 #[.string DS] (.tuple #[.int .i64 DN, .bool false]))
    (HHX : Tells w 16 #[.string T] (.string HX))
    (HUX : Tells w 15 #[.string HX] (.tuple #[.string T, .bool true]))
    (HDR : Tells w 17 #[.slice a bs.length cap] (.string R))
    (HRR : Tells w 10 #[.string R] (.tuple #[.int .i64 Z, .int .i64 J]))
    (HVZ : Tells w 9 #[.int .i64 Z] (.string V))
    (c1 : 0 ≤ n) (c2 : 562949953421311 < n) (c3 : n < 72057594037927936) (c4 : decide (n ≤ 562949953421311) = false) (sE : S.toList.isEmpty = true) (fE : F.toList.isEmpty = false) (f7 : F.size = 7) (d1 : -1000000000 < n) (d2 : 1000000000 ≤ n) (d3 : decide (n < 1000000000) = false) (hj0 : 0 < J) (hj1 : J ≤ (R.size : Int)) (hjn : (J == 0) = false) (hVR : (V.toList == (R.extract 0 J.toNat).toList) = true) :
    Calls Tryd.prog 3 #[.slice a bs.length cap] w fun e w' => e = .returned (.bool true) ∧ Below w.heap.size w w' := by
  have HD1' := Lib.hid HD1
  have HD2' := Lib.hid HD2
  have HV' := Lib.hid HV
  have HRV' := Lib.hid HRV
  have HF' := Lib.hid HF
  have HRF' := Lib.hid HRF
  have HDC' := Lib.hid HDC
  have HRD' := Lib.hid HRD
  have HHX' := Lib.hid HHX
  have HUX' := Lib.hid HUX
  have HDR' := Lib.hid HDR
  have HRR' := Lib.hid HRR
  have HVZ' := Lib.hid HVZ
  have HR0 := Lib.hid hroom
  clear HD1 HD2 HV HRV HF HRF HDC HRD HHX HUX HDR HRR HVZ
  go_enter Tryd.func3, Tryd.ntmps3
  go_wp2_with fail
  refine (big_no a cap bs HR0.out _).mono ?_
  rintro e w' ⟨rfl, rfl⟩
  go_wp2_with fail
  refine (HD1'.out _ (Below.refl _ _)).mono ?_
  rintro e v0 ⟨rfl, hb0⟩
  go_wp2_with fail
  refine (HD2'.out _ hb0).mono ?_
  rintro e v1 ⟨rfl, hb1⟩
  go_wp2_with fail
  refine (HV'.out _ hb1).mono ?_
  rintro e v2 ⟨rfl, hb2⟩
  go_wp2_with fail
  refine (HRV'.out _ hb2).mono ?_
  rintro e v3 ⟨rfl, hb3⟩
  go_wp2_with fail
  refine (HF'.out _ hb3).mono ?_
  rintro e v4 ⟨rfl, hb4⟩
  go_wp2_with fail
  refine (HRF'.out _ hb4).mono ?_
  rintro e v5 ⟨rfl, hb5⟩
  go_wp2_with fail
  refine (HDC'.out _ hb5).mono ?_
  rintro e v6 ⟨rfl, hb6⟩
  go_wp2_with fail
  refine (HRD'.out _ hb6).mono ?_
  rintro e v7 ⟨rfl, hb7⟩
  go_wp2_with fail
  refine (HHX'.out _ hb7).mono ?_
  rintro e v8 ⟨rfl, hb8⟩
  go_wp2_with fail
  refine (HUX'.out _ hb8).mono ?_
  rintro e v9 ⟨rfl, hb9⟩
  go_wp2_with fail
  refine (HDR'.out _ hb9).mono ?_
  rintro e v10 ⟨rfl, hb10⟩
  go_wp2_with fail
  refine (HRR'.out _ hb10).mono ?_
  rintro e v11 ⟨rfl, hb11⟩
  go_wp2_with fail
  refine (HDR'.out _ hb11).mono ?_
  rintro e v12 ⟨rfl, hb12⟩
  go_wp2_with fail
  refine (HVZ'.out _ hb12).mono ?_
  rintro e v13 ⟨rfl, hb13⟩
  go_wp2_with fail
  refine (HDR'.out _ hb13).mono ?_
  rintro e v14 ⟨rfl, hb14⟩
  go_wp2_with fail
  go_ret
  exact ⟨rfl, hb14⟩

set_option maxRecDepth 100000 in
set_option maxHeartbeats 1600000 in
theorem num_p3_1 (w : World) (a : Option Addr) (cap : Nat) (bs : List UInt8) (hroom : bs.length ≤ 1048576) (n : Int) (S T F HX R V : ByteArray) (X K Y DN Z J : Int) (IS FI : Bool) (DS : ByteArray) (hS : S.size ≤ 7) (hT : T.size ≤ 40) (hFs : F.size ≤ 7)
    (HD1 : Tells w 7 #[.slice a bs.length cap] (.int .i64 n))
    (HD2 : Tells w 8 #[.slice a bs.length cap] (.string T))
    (HV : Tells w 9 #[.int .i64 n] (.string S))
    (HRV : Tells w 10 #[.string (S ++ T)] (.tuple #[.int .i64 X, .int .i64 K]))
    (HF : Tells w 11 #[.int .i64 n, .int .i64 7] (.string F))
    (HRF : Tells w 12 #[.string (F ++ T), .int .i64 7] (.tuple #[.int .i64 Y, .bool IS]))
    (HDC : Tells w 14 #[.int .i64 n] (.string DS))
    (HRD : Tells w 13 #[.string DS] (.tuple #[.int .i64 DN, .bool false]))
    (HHX : Tells w 16 #[.string T] (.string HX))
    (HUX : Tells w 15 #[.string HX] (.tuple #[.string T, .bool true]))
    (HDR : Tells w 17 #[.slice a bs.length cap] (.string R))
    (HRR : Tells w 10 #[.string R] (.tuple #[.int .i64 Z, .int .i64 J]))
    (HVZ : Tells w 9 #[.int .i64 Z] (.string V))
    (c1 : 0 ≤ n) (c2 : 562949953421311 < n) (c3 : 72057594037927936 ≤ n) (c4 : decide (n ≤ 562949953421311) = false) (sE : S.toList.isEmpty = true) (fE : F.toList.isEmpty = true) (d1 : -1000000000 < n) (d2 : 1000000000 ≤ n) (d3 : decide (n < 1000000000) = false) (hj0 : 0 < J) (hj1 : J ≤ (R.size : Int)) (hjn : (J == 0) = false) (hVR : (V.toList == (R.extract 0 J.toNat).toList) = true) :
    Calls Tryd.prog 3 #[.slice a bs.length cap] w fun e w' => e = .returned (.bool true) ∧ Below w.heap.size w w' := by
  have HD1' := Lib.hid HD1
  have HD2' := Lib.hid HD2
  have HV' := Lib.hid HV
  have HRV' := Lib.hid HRV
  have HF' := Lib.hid HF
  have HRF' := Lib.hid HRF
  have HDC' := Lib.hid HDC
  have HRD' := Lib.hid HRD
  have HHX' := Lib.hid HHX
  have HUX' := Lib.hid HUX
  have HDR' := Lib.hid HDR
  have HRR' := Lib.hid HRR
  have HVZ' := Lib.hid HVZ
  have HR0 := Lib.hid hroom
  clear HD1 HD2 HV HRV HF HRF HDC HRD HHX HUX HDR HRR HVZ
  go_enter Tryd.func3, Tryd.ntmps3
  go_wp2_with fail
  refine (big_no a cap bs HR0.out _).mono ?_
  rintro e w' ⟨rfl, rfl⟩
  go_wp2_with fail
  refine (HD1'.out _ (Below.refl _ _)).mono ?_
  rintro e v0 ⟨rfl, hb0⟩
  go_wp2_with fail
  refine (HD2'.out _ hb0).mono ?_
  rintro e v1 ⟨rfl, hb1⟩
  go_wp2_with fail
  refine (HV'.out _ hb1).mono ?_
  rintro e v2 ⟨rfl, hb2⟩
  go_wp2_with fail
  refine (HRV'.out _ hb2).mono ?_
  rintro e v3 ⟨rfl, hb3⟩
  go_wp2_with fail
  refine (HF'.out _ hb3).mono ?_
  rintro e v4 ⟨rfl, hb4⟩
  go_wp2_with fail
  refine (HRF'.out _ hb4).mono ?_
  rintro e v5 ⟨rfl, hb5⟩
  go_wp2_with fail
  refine (HDC'.out _ hb5).mono ?_
  rintro e v6 ⟨rfl, hb6⟩
  go_wp2_with fail
  refine (HRD'.out _ hb6).mono ?_
  rintro e v7 ⟨rfl, hb7⟩
  go_wp2_with fail
  refine (HHX'.out _ hb7).mono ?_
  rintro e v8 ⟨rfl, hb8⟩
  go_wp2_with fail
  refine (HUX'.out _ hb8).mono ?_
  rintro e v9 ⟨rfl, hb9⟩
  go_wp2_with fail
  refine (HDR'.out _ hb9).mono ?_
  rintro e v10 ⟨rfl, hb10⟩
  go_wp2_with fail
  refine (HRR'.out _ hb10).mono ?_
  rintro e v11 ⟨rfl, hb11⟩
  go_wp2_with fail
  refine (HDR'.out _ hb11).mono ?_
  rintro e v12 ⟨rfl, hb12⟩
  go_wp2_with fail
  refine (HVZ'.out _ hb12).mono ?_
  rintro e v13 ⟨rfl, hb13⟩
  go_wp2_with fail
  refine (HDR'.out _ hb13).mono ?_
  rintro e v14 ⟨rfl, hb14⟩
  go_wp2_with fail
  go_ret
  exact ⟨rfl, hb14⟩

set_option maxRecDepth 100000 in
set_option maxHeartbeats 1600000 in
theorem num_p4s_1 (w : World) (a : Option Addr) (cap : Nat) (bs : List UInt8) (hroom : bs.length ≤ 1048576) (n : Int) (S T F HX R V : ByteArray) (X K Y DN Z J : Int) (IS FI : Bool) (DS : ByteArray) (hS : S.size ≤ 7) (hT : T.size ≤ 40) (hFs : F.size ≤ 7)
    (HD1 : Tells w 7 #[.slice a bs.length cap] (.int .i64 n))
    (HD2 : Tells w 8 #[.slice a bs.length cap] (.string T))
    (HV : Tells w 9 #[.int .i64 n] (.string S))
    (HRV : Tells w 10 #[.string (S ++ T)] (.tuple #[.int .i64 X, .int .i64 K]))
    (HF : Tells w 11 #[.int .i64 n, .int .i64 7] (.string F))
    (HRF : Tells w 12 #[.string (F ++ T), .int .i64 7] (.tuple #[.int .i64 Y, .bool IS]))
    (HDC : Tells w 14 #[.int .i64 n] (.string DS))
    (HRD : Tells w 13 #[.string DS] (.tuple #[.int .i64 n, .bool true]))
    (HHX : Tells w 16 #[.string T] (.string HX))
    (HUX : Tells w 15 #[.string HX] (.tuple #[.string T, .bool true]))
    (HDR : Tells w 17 #[.slice a bs.length cap] (.string R))
    (HRR : Tells w 10 #[.string R] (.tuple #[.int .i64 Z, .int .i64 J]))
    (HVZ : Tells w 9 #[.int .i64 Z] (.string V))
    (c1 : n < 0) (sE : S.toList.isEmpty = true) (fE : F.toList.isEmpty = true) (d1 : -1000000000 < n) (d2 : n < 1000000000) (hj0 : 0 < J) (hj1 : J ≤ (R.size : Int)) (hjn : (J == 0) = false) (hVR : (V.toList == (R.extract 0 J.toNat).toList) = true) :
    Calls Tryd.prog 3 #[.slice a bs.length cap] w fun e w' => e = .returned (.bool true) ∧ Below w.heap.size w w' := by
  have HD1' := Lib.hid HD1
  have HD2' := Lib.hid HD2
  have HV' := Lib.hid HV
  have HRV' := Lib.hid HRV
  have HF' := Lib.hid HF
  have HRF' := Lib.hid HRF
  have HDC' := Lib.hid HDC
  have HRD' := Lib.hid HRD
  have HHX' := Lib.hid HHX
  have HUX' := Lib.hid HUX
  have HDR' := Lib.hid HDR
  have HRR' := Lib.hid HRR
  have HVZ' := Lib.hid HVZ
  have HR0 := Lib.hid hroom
  clear HD1 HD2 HV HRV HF HRF HDC HRD HHX HUX HDR HRR HVZ
  go_enter Tryd.func3, Tryd.ntmps3
  go_wp2_with fail
  refine (big_no a cap bs HR0.out _).mono ?_
  rintro e w' ⟨rfl, rfl⟩
  go_wp2_with fail
  refine (HD1'.out _ (Below.refl _ _)).mono ?_
  rintro e v0 ⟨rfl, hb0⟩
  go_wp2_with fail
  refine (HD2'.out _ hb0).mono ?_
  rintro e v1 ⟨rfl, hb1⟩
  go_wp2_with fail
  refine (HV'.out _ hb1).mono ?_
  rintro e v2 ⟨rfl, hb2⟩
  go_wp2_with fail
  refine (HRV'.out _ hb2).mono ?_
  rintro e v3 ⟨rfl, hb3⟩
  go_wp2_with fail
  refine (HF'.out _ hb3).mono ?_
  rintro e v4 ⟨rfl, hb4⟩
  go_wp2_with fail
  refine (HRF'.out _ hb4).mono ?_
  rintro e v5 ⟨rfl, hb5⟩
  go_wp2_with fail
  refine (HDC'.out _ hb5).mono ?_
  rintro e v6 ⟨rfl, hb6⟩
  go_wp2_with fail
  refine (HRD'.out _ hb6).mono ?_
  rintro e v7 ⟨rfl, hb7⟩
  go_wp2_with fail
  refine (HHX'.out _ hb7).mono ?_
  rintro e v8 ⟨rfl, hb8⟩
  go_wp2_with fail
  refine (HUX'.out _ hb8).mono ?_
  rintro e v9 ⟨rfl, hb9⟩
  go_wp2_with fail
  refine (HDR'.out _ hb9).mono ?_
  rintro e v10 ⟨rfl, hb10⟩
  go_wp2_with fail
  refine (HRR'.out _ hb10).mono ?_
  rintro e v11 ⟨rfl, hb11⟩
  go_wp2_with fail
  refine (HDR'.out _ hb11).mono ?_
  rintro e v12 ⟨rfl, hb12⟩
  go_wp2_with fail
  refine (HVZ'.out _ hb12).mono ?_
  rintro e v13 ⟨rfl, hb13⟩
  go_wp2_with fail
  refine (HDR'.out _ hb13).mono ?_
  rintro e v14 ⟨rfl, hb14⟩
  go_wp2_with fail
  go_ret
  exact ⟨rfl, hb14⟩

set_option maxRecDepth 100000 in
set_option maxHeartbeats 1600000 in
theorem num_p4b_1 (w : World) (a : Option Addr) (cap : Nat) (bs : List UInt8) (hroom : bs.length ≤ 1048576) (n : Int) (S T F HX R V : ByteArray) (X K Y DN Z J : Int) (IS FI : Bool) (DS : ByteArray) (hS : S.size ≤ 7) (hT : T.size ≤ 40) (hFs : F.size ≤ 7)
    (HD1 : Tells w 7 #[.slice a bs.length cap] (.int .i64 n))
    (HD2 : Tells w 8 #[.slice a bs.length cap] (.string T))
    (HV : Tells w 9 #[.int .i64 n] (.string S))
    (HRV : Tells w 10 #[.string (S ++ T)] (.tuple #[.int .i64 X, .int .i64 K]))
    (HF : Tells w 11 #[.int .i64 n, .int .i64 7] (.string F))
    (HRF : Tells w 12 #[.string (F ++ T), .int .i64 7] (.tuple #[.int .i64 Y, .bool IS]))
    (HDC : Tells w 14 #[.int .i64 n] (.string DS))
    (HRD : Tells w 13 #[.string DS] (.tuple #[.int .i64 DN, .bool false]))
    (HHX : Tells w 16 #[.string T] (.string HX))
    (HUX : Tells w 15 #[.string HX] (.tuple #[.string T, .bool true]))
    (HDR : Tells w 17 #[.slice a bs.length cap] (.string R))
    (HRR : Tells w 10 #[.string R] (.tuple #[.int .i64 Z, .int .i64 J]))
    (HVZ : Tells w 9 #[.int .i64 Z] (.string V))
    (c1 : n < 0) (sE : S.toList.isEmpty = true) (fE : F.toList.isEmpty = true) (d1 : n ≤ -1000000000) (d2 : n < 1000000000) (hj0 : 0 < J) (hj1 : J ≤ (R.size : Int)) (hjn : (J == 0) = false) (hVR : (V.toList == (R.extract 0 J.toNat).toList) = true) :
    Calls Tryd.prog 3 #[.slice a bs.length cap] w fun e w' => e = .returned (.bool true) ∧ Below w.heap.size w w' := by
  have HD1' := Lib.hid HD1
  have HD2' := Lib.hid HD2
  have HV' := Lib.hid HV
  have HRV' := Lib.hid HRV
  have HF' := Lib.hid HF
  have HRF' := Lib.hid HRF
  have HDC' := Lib.hid HDC
  have HRD' := Lib.hid HRD
  have HHX' := Lib.hid HHX
  have HUX' := Lib.hid HUX
  have HDR' := Lib.hid HDR
  have HRR' := Lib.hid HRR
  have HVZ' := Lib.hid HVZ
  have HR0 := Lib.hid hroom
  clear HD1 HD2 HV HRV HF HRF HDC HRD HHX HUX HDR HRR HVZ
  go_enter Tryd.func3, Tryd.ntmps3
  go_wp2_with fail
  refine (big_no a cap bs HR0.out _).mono ?_
  rintro e w' ⟨rfl, rfl⟩
  go_wp2_with fail
  refine (HD1'.out _ (Below.refl _ _)).mono ?_
  rintro e v0 ⟨rfl, hb0⟩
  go_wp2_with fail
  refine (HD2'.out _ hb0).mono ?_
  rintro e v1 ⟨rfl, hb1⟩
  go_wp2_with fail
  refine (HV'.out _ hb1).mono ?_
  rintro e v2 ⟨rfl, hb2⟩
  go_wp2_with fail
  refine (HRV'.out _ hb2).mono ?_
  rintro e v3 ⟨rfl, hb3⟩
  go_wp2_with fail
  refine (HF'.out _ hb3).mono ?_
  rintro e v4 ⟨rfl, hb4⟩
  go_wp2_with fail
  refine (HRF'.out _ hb4).mono ?_
  rintro e v5 ⟨rfl, hb5⟩
  go_wp2_with fail
  refine (HDC'.out _ hb5).mono ?_
  rintro e v6 ⟨rfl, hb6⟩
  go_wp2_with fail
  refine (HRD'.out _ hb6).mono ?_
  rintro e v7 ⟨rfl, hb7⟩
  go_wp2_with fail
  refine (HHX'.out _ hb7).mono ?_
  rintro e v8 ⟨rfl, hb8⟩
  go_wp2_with fail
  refine (HUX'.out _ hb8).mono ?_
  rintro e v9 ⟨rfl, hb9⟩
  go_wp2_with fail
  refine (HDR'.out _ hb9).mono ?_
  rintro e v10 ⟨rfl, hb10⟩
  go_wp2_with fail
  refine (HRR'.out _ hb10).mono ?_
  rintro e v11 ⟨rfl, hb11⟩
  go_wp2_with fail
  refine (HDR'.out _ hb11).mono ?_
  rintro e v12 ⟨rfl, hb12⟩
  go_wp2_with fail
  refine (HVZ'.out _ hb12).mono ?_
  rintro e v13 ⟨rfl, hb13⟩
  go_wp2_with fail
  refine (HDR'.out _ hb13).mono ?_
  rintro e v14 ⟨rfl, hb14⟩
  go_wp2_with fail
  go_ret
  exact ⟨rfl, hb14⟩

end Go.Proofs.YtehlbloalfclcaaDoor
