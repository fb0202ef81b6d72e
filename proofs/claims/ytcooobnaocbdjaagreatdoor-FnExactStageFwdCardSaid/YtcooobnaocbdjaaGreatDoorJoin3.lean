import Derived.Test.YtcooobnaocbdjaaGreatDoorJoin2
import Derived.Test.YtcooobnaocbdjaaGreatDoorJoin1
/-! YtcooobnaocbdjaaGreatDoorPVecM -/
section
set_option linter.unusedVariables false
namespace Go.Proofs.YtcooobnaocbdjaaGreatDoor
def Qm (xs:List Int):Bool:=decide (1<=xs.length) && decide (xs.length<=6) && xs.all okB
theorem Qgo {xs:List Int} (h:xs.length<1\/6<xs.length):Qm xs=false:=by
 unfold Qm
 rcases h with h | h
 ·rw [decide_eq_false (by omega : ¬ 1<=xs.length)];simp
 ·rw [decide_eq_false (by omega : ¬ xs.length<=6)];simp
theorem Qij {xs:List Int} {k:Nat} (hk:k<xs.length) (h:okB (xs.getD k 0)=false):Qm xs=false:=by
 have h1:xs.getD k 0∈xs:=by simp [List.getD,hk]
 have h2:xs.all okB=false:=List.all_eq_false.2 ⟨_,h1,by rw [h];decide⟩
 unfold Qm
 rw [h2,Bool.and_false]
theorem Qgp {xs:List Int} (h0:1<=xs.length) (h1:xs.length<=6) (h : ∀ j,j<xs.length->okB (xs.getD j 0)=true):Qm xs=true:=by
 have h2:xs.all okB=true:=by
  refine List.all_eq_true.2 fun x hx => ?_
  obtain ⟨j,hj,rfl⟩:=List.mem_iff_getElem.1 hx
  have:=h j hj
  simpa [List.getD,hj] using this
 unfold Qm
 rw [h2,decide_eq_true h0,decide_eq_true h1]
 rfl
theorem Q8 {xs:List Int} (h:Qm xs=true):1<=xs.length/\xs.length<=6 /\ ∀ j,j<xs.length->okB (xs.getD j 0)=true:=by
 unfold Qm at h
 simp only [Bool.and_eq_true,decide_eq_true_eq,List.all_eq_true] at h
 refine ⟨h.1.1,h.1.2,fun j hj=>h.2 _ ?_⟩
 simp [List.getD,hj]
def Jt (xs ys:List Int):Bool:=Qm xs && Qm ys && decide (xs.length=ys.length)
theorem Qa1 {xs ys:List Int} (h:Jt xs ys=true):Qm xs=true/\Qm ys=true/\xs.length=ys.length:=by
 unfold Jt at h
 simp only [Bool.and_eq_true,decide_eq_true_eq] at h
 exact ⟨h.1.1,h.1.2,h.2⟩
theorem Qax (xs:List Int):Jt xs xs=Qm xs:=by unfold Jt;simp
def rowK (f:Int->Int->Int) (xs ys:List Int):Nat->List Int
 | 0=>[]
 | k+1=>rowK f xs ys k ++ [f (xs.getD k 0) (ys.getD k 0)]
theorem Jc (f:Int->Int->Int) (xs ys:List Int) (k:Nat):(rowK f xs ys k).length=k:=by
 induction k with
 | zero=>rfl
 | succ k ih=>simp [rowK,ih]
theorem Qo7 (f:Int->Int->Int) (xs ys:List Int) (k j:Nat) (hj:j<k):(rowK f xs ys k).getD j 0=f (xs.getD j 0) (ys.getD j 0):=by
 induction k with
 | zero=>omega
 | succ k ih =>
  by_cases e:j=k
  ·subst e
   have:=Jc f xs ys j
   simp only [rowK,List.getD]
   rw [List.getElem?_append_right (by omega),this,Nat.sub_self]
   rfl
  ·have hl:=Jc f xs ys k
   have:=ih (by omega)
   simp only [rowK,List.getD] at this |-
   rw [List.getElem?_append_left (by omega)]
   exact this
def Qa9 (g:Int->Int->Bool) (xs ys:List Int):Nat->Bool
 | 0=>false
 | k+1=>Qa9 g xs ys k || g (xs.getD k 0) (ys.getD k 0)
def rowP (f:Int->Int->Int) (xs ys:List Int):List Int:=if Jt xs ys then rowK f xs ys xs.length else []
def Qbi (g:Int->Int->Bool) (xs ys:List Int):Bool:=Jt xs ys && Qa9 g xs ys xs.length
theorem Qd1 (f:Int->Int->Int) {xs ys:List Int} (h:Jt xs ys=false):rowP f xs ys=[]:=by unfold rowP;rw [h];rfl
theorem Qbw (f:Int->Int->Int) {xs ys:List Int} (h:Jt xs ys=true):rowP f xs ys=rowK f xs ys xs.length:=by unfold rowP;rw [h];rfl
theorem Qe0 (f:Int->Int->Bool) {xs ys:List Int} (h:Jt xs ys=false):Qbi f xs ys=false:=by unfold Qbi;rw [h];rfl
theorem Qdi (f:Int->Int->Bool) {xs ys:List Int} (h:Jt xs ys=true):Qbi f xs ys=Qa9 f xs ys xs.length:=by unfold Qbi;rw [h];rfl
theorem Qe4 (f:Int->Int->Int) (xs ys:List Int):(rowP f xs ys).length<=6:=by
 by_cases h:Jt xs ys=true
 ·rw [Qbw f h,Jc]
  exact (Q8 (Qa1 h).1).2.1
 ·rw [Qd1 f (by simpa using h)]
  decide
def Qas (c:Int) (xs:List Int):List Int:=if okB c then rowP (fun x _=>mulN c x) xs xs else []
def Qbr (c:Int) (xs:List Int):Bool:=okB c && Qbi (fun x _=>mulB c x) xs xs
def sumK (F:Int->Int->Int->Int) (xs ys:List Int):Nat->Int
 | 0=>0
 | k+1=>F (sumK F xs ys k) (xs.getD k 0) (ys.getD k 0)
def Qj0 (F:Int->Int->Int->Int) (G:Int->Int->Int->Bool) (xs ys:List Int):Nat->Bool
 | 0=>false
 | k+1=>Qj0 F G xs ys k || G (sumK F xs ys k) (xs.getD k 0) (ys.getD k 0)
def dotF (s x y:Int):Int:=addN s (mulN x y)
def dotG (s x y:Int):Bool:=mulB x y || addB s (mulN x y)
abbrev dotK (xs ys:List Int) (k:Nat):Int:=sumK dotF xs ys k
abbrev Qlq (xs ys:List Int) (k:Nat):Bool:=Qj0 dotF dotG xs ys k
def dotN (xs ys:List Int):Int:=if Jt xs ys then dotK xs ys xs.length else 0
def dotB (xs ys:List Int):Bool:=Jt xs ys && Qlq xs ys xs.length
theorem Qnf {xs ys:List Int} (h:Jt xs ys=false):dotN xs ys=0:=by unfold dotN;rw [h];rfl
theorem Qk0 {xs ys:List Int} (h:Jt xs ys=true):dotN xs ys=dotK xs ys xs.length:=by unfold dotN;rw [h];rfl
theorem Qng {xs ys:List Int} (h:Jt xs ys=false):dotB xs ys=false:=by unfold dotB;rw [h];rfl
theorem Qk1 {xs ys:List Int} (h:Jt xs ys=true):dotB xs ys=Qlq xs ys xs.length:=by unfold dotB;rw [h];rfl
def Qsi (x d:Int):Int:=if 0<x then d else 0
end Go.Proofs.YtcooobnaocbdjaaGreatDoor

end

/-! YtcooobnaocbdjaaGreatDoorPFixMore -/
section
set_option linter.unusedVariables false
namespace Go.Proofs.YtcooobnaocbdjaaGreatDoor
theorem Qe5 (x:Int):okB (sat x)=true:=Qne (Zo x).1 (Zo x).2
theorem Qlr (a:Int):0<=Qaq a/\(Qaq a=0\/Qaq a=sat a):=by
 unfold Qaq
 split
 ·exact ⟨by omega,Or.inr rfl⟩
 ·exact ⟨by omega,Or.inl rfl⟩
end Go.Proofs.YtcooobnaocbdjaaGreatDoor

end

/-! YtcooobnaocbdjaaGreatDoorPVecLawM -/
section
set_option linter.unusedVariables false
namespace Go.Proofs.YtcooobnaocbdjaaGreatDoor
def Qsj (n j:Nat):List Int:=(List.replicate n 0).set j 65536
end Go.Proofs.YtcooobnaocbdjaaGreatDoor

end

/-! YtcooobnaocbdjaaGreatDoorPMatM -/
section
set_option linter.unusedVariables false
namespace Go.Proofs.YtcooobnaocbdjaaGreatDoor
def mapK (f:Nat->Int):Nat->List Int
 | 0=>[]
 | k+1=>mapK f k ++ [f k]
theorem Qbx (f:Nat->Int) (k:Nat):(mapK f k).length=k:=by
 induction k with
 | zero=>rfl
 | succ k ih=>simp [mapK,ih]
theorem Qo8 (f:Nat->Int) (k j:Nat) (hj:j<k):(mapK f k).getD j 0=f j:=by
 induction k with
 | zero=>omega
 | succ k ih =>
  have hl:=Qbx f k
  by_cases e:j=k
  ·subst e
   simp only [mapK,List.getD]
   rw [List.getElem?_append_right (by omega),hl,Nat.sub_self]
   rfl
  ·have:=ih (by omega)
   simp only [mapK,List.getD] at this |-
   rw [List.getElem?_append_left (by omega)]
   exact this
def anyK (g:Nat->Bool):Nat->Bool
 | 0=>false
 | k+1=>anyK g k || g k
def Qql (f:Nat->Nat->Int) (c:Nat):Nat->List Int
 | 0=>[]
 | i+1=>Qql f c i ++ mapK (f i) c
def J4 (c:Nat) (xs:List Int) (i:Nat):List Int:=(xs.drop (i*c)).take c
def colF (c:Nat) (xs:List Int) (k i:Nat):Int:=xs.getD (i*c+k) 0
def Qrl (r c:Nat) (xs:List Int) (k:Nat):List Int:=mapK (colF c xs k) r
theorem Qeh {r c:Nat} {xs:List Int} {i:Nat} (hl:xs.length=r*c) (hi:i<r):(J4 c xs i).length=c:=by
 have hle:(i+1)*c<=r*c:=Nat.mul_le_mul_right c (by omega)
 rw [Nat.succ_mul] at hle
 unfold J4
 simp
 omega
theorem Qik (c:Nat) (xs:List Int) (i k:Nat) (hk:k<c):(J4 c xs i).getD k 0=xs.getD (i*c+k) 0:=by
 simp [J4,List.getD,hk,List.getElem?_drop]
def Jv (r c:Int) (xs:List Int):Bool:=inB 1 6 r && inB 1 6 c && decide ((xs.length:Int)=r*c) && xs.all okB
theorem Qa2 {lo hi x:Int} (h:inB lo hi x=true):lo<=x/\x<=hi:=by unfold inB at h;simpa using h
theorem Qd2 {xs:List Int} (h : ∀ j,j<xs.length->okB (xs.getD j 0)=true):xs.all okB=true:=by
 refine List.all_eq_true.2 fun x hx => ?_
 obtain ⟨j,hj,rfl⟩:=List.mem_iff_getElem.1 hx
 have:=h j hj
 simpa [List.getD,hj] using this
theorem Qgq {xs:List Int} (h:xs.all okB=true) (j:Nat) (hj:j<xs.length):okB (xs.getD j 0)=true:=by
 have h2:=List.all_eq_true.1 h
 refine h2 _ ?_
 simp [List.getD,hj]
theorem Qe6 {xs:List Int} {k:Nat} (hk:k<xs.length) (h:okB (xs.getD k 0)=false):xs.all okB=false:=by
 have h1:xs.getD k 0∈xs:=by simp [List.getD,hk]
 exact List.all_eq_false.2 ⟨_,h1,by rw [h];decide⟩
theorem Qd3 {r c:Int} {xs:List Int} (h:Jv r c xs=true) : ∃ m n:Nat,r=m/\c=n/\(1<=m/\m<=6)/\(1<=n/\n<=6)/\xs.length=m*n/\xs.all okB=true:=by
 unfold Jv at h
 simp only [Bool.and_eq_true,decide_eq_true_eq] at h
 obtain ⟨⟨⟨h1,h2⟩,h3⟩,h4⟩:=h
 obtain ⟨a0,a1⟩:=Qa2 h1
 obtain ⟨b0,b1⟩:=Qa2 h2
 refine ⟨r.toNat,c.toNat,by omega,by omega,⟨by omega,by omega⟩,⟨by omega,by omega⟩,?_,h4⟩
 have e1:r=(r.toNat:Int):=by omega
 have e2:c=(c.toNat:Int):=by omega
 rw [e1,e2] at h3
 exact_mod_cast h3
theorem Qls {m n:Nat} {xs:List Int} (h1:1<=m/\m<=6) (h2:1<=n/\n<=6) (hl:xs.length=m*n) (h:xs.all okB=true):Jv m n xs=true:=by
 unfold Jv
 rw [Qbh (by omega) (by omega),Qbh (by omega) (by omega),h,decide_eq_true (by rw [hl];push_cast;rfl)]
 rfl
theorem Qo9 {m n i k:Nat} (hi:i<m) (hk:k<n):i*n+k<m*n:=by
 have hle:(i+1)*n<=m*n:=Nat.mul_le_mul_right n (by omega)
 rw [Nat.succ_mul] at hle
 omega
def mvOk (r c:Int) (xs ys:List Int):Bool:=Jv r c xs && Qm ys && decide ((ys.length:Int)=c)
def mbOk (r c:Int) (xs ys:List Int):Bool:=Jv r c xs && Qm ys && decide ((ys.length:Int)=r)
def mvN (r c:Int) (xs ys:List Int):List Int:=if mvOk r c xs ys then mapK (fun i=>dotN (J4 c.toNat xs i) ys) r.toNat else []
def mvB (r c:Int) (xs ys:List Int):Bool:=mvOk r c xs ys && anyK (fun i=>dotB (J4 c.toNat xs i) ys) r.toNat
def mbN (r c:Int) (xs ys:List Int):List Int:=if mbOk r c xs ys then mapK (fun k=>dotN (Qrl r.toNat c.toNat xs k) ys) c.toNat else []
def mbB (r c:Int) (xs ys:List Int):Bool:=mbOk r c xs ys && anyK (fun k=>dotB (Qrl r.toNat c.toNat xs k) ys) c.toNat
def Qpa (xs ys:List Int):Bool:=Qm xs && Qm ys
def outR (ds xs:List Int):Int:=if Qpa ds xs then ds.length else 0
def outC (ds xs:List Int):Int:=if Qpa ds xs then xs.length else 0
def outN (ds xs:List Int):List Int:=if Qpa ds xs then Qql (fun i k=>mulN (ds.getD i 0) (xs.getD k 0)) xs.length ds.length else []
def Qrm (g:Nat->Nat->Bool) (c:Nat):Nat->Bool
 | 0=>false
 | i+1=>Qrm g c i || anyK (g i) c
def outB (ds xs:List Int):Bool:=Qpa ds xs && Qrm (fun i k=>mulB (ds.getD i 0) (xs.getD k 0)) xs.length ds.length
def trR (r c:Int) (xs:List Int):Int:=if Jv r c xs then c else 0
def trC (r c:Int) (xs:List Int):Int:=if Jv r c xs then r else 0
def trN (r c:Int) (xs:List Int):List Int:=if Jv r c xs then Qql (fun k i=>xs.getD (i*c.toNat+k) 0) r.toNat c.toNat else []
theorem le36 {m n:Nat} (h1:m<=6) (h2:n<=6):m*n<=36:=Nat.mul_le_mul h1 h2
theorem Qgr (r c:Int) (xs ys:List Int):(mvN r c xs ys).length<=6:=by
 unfold mvN
 split
 ·rename_i h
  unfold mvOk at h
  simp only [Bool.and_eq_true] at h
  obtain ⟨m,n,rfl,rfl,hm,_⟩:=Qd3 h.1.1
  rw [Qbx]
  simpa using hm.2
 ·decide
end Go.Proofs.YtcooobnaocbdjaaGreatDoor

end

/-! YtcooobnaocbdjaaGreatDoorPMat -/
section
set_option linter.unusedVariables false
namespace Go.Proofs.YtcooobnaocbdjaaGreatDoor
open Go.RowKit
theorem Qnh (w:World) (a:Option Addr) (n c:Nat) (L:Int) (h0:(n:Int)<=L) (h1:L<=1048576) :
  Calls Tryz.prog 71 #[.slice a n c,.int .i64 L] w fun e w'=>e = .returned (.int .i64 (L-n))/\w=w':=by
 have hd:decide (L-(n:Int)<0)=false:=decide_eq_false (by omega)
 go_enter Tryz.func71,Tryz.ntmps71
 go_wp2_with fail
 go_ret
 exact ⟨rfl,rfl⟩
theorem Qlt (w:World) (a:Option Addr) (n c:Nat) (L:Int) (h0:L<(n:Int)) (hl:0<=L) (h1:L<=1048576) (hn:n<=9223372036854775807) :
  Calls Tryz.prog 71 #[.slice a n c,.int .i64 L] w fun e w'=>e = .returned (.int .i64 (-1))/\w=w':=by
 have hd:decide (L-(n:Int)<0)=true:=decide_eq_true (by omega)
 go_enter Tryz.func71,Tryz.ntmps71
 go_wp2_with fail
 go_ret
 exact ⟨rfl,rfl⟩
theorem Row.setBelow {base:Nat} {w:World} {v:Value} {zs:List Int} (h:Row base w v zs) {a:Addr} (ha:a.block<base) (u:Value):Row base (w.setCell a u) v zs:=ownsRow_setCell_below h ha u
theorem Qdj {w:World} {g:Nat} {x y z:Value} {T:TypeId} (h:w.heap[g]? = some (.cells #[x,y,z] T (0,0))) :
  (w.cell? ⟨g,0,none⟩=some x/\w.cell? ⟨g,1,none⟩=some y/\w.cell? ⟨g,2,none⟩=some z)/\w.frozen? ⟨g,0,none⟩=false/\w.frozen? ⟨g,1,none⟩=false/\w.frozen? ⟨g,2,none⟩=false:=
 ⟨⟨by rw [cell_of_row _ _ _ _ _ _ h];rfl,by rw [cell_of_row _ _ _ _ _ _ h];rfl,by rw [cell_of_row _ _ _ _ _ _ h];rfl⟩,frozen_of_row w g 0 _ _ h,frozen_of_row w g 1 _ _ h,frozen_of_row w g 2 _ _ h⟩
end Go.Proofs.YtcooobnaocbdjaaGreatDoor

end
