import Derived.Test.YtcooobnaocbdjaaGreatDoorJoin34
import Derived.Test.YtcooobnaocbdjaaGreatDoorJoin12
set_option maxRecDepth 100000
set_option linter.unusedVariables false
namespace Go.Proofs.YtcooobnaocbdjaaGreatDoor
open Go.RowKit
theorem Qee (i o:Int) (a:Option Addr) (n cp:Nat) (w:World):(method 262 302 (.agg #[.int .i64 o,.int .i64 i,.slice a n cp]) "loop.example/g01407/impl.ahead").run Tryz.prog w = .ok (342,.agg #[.int .i64 o,.int .i64 i,.slice a n cp]) w:=by kernel_rfl
theorem Qev (w:World) (k i o:Int) (a:Option Addr) (n cp:Nat) (ps:List Int) (a2:Option Addr) (n2 c4:Nat) (xs:List Int) (h1:IntsIn w.heap.size w a n ps) (hcp:n<=cp) (hcap:cp<=9223372036854775807) (h2:IntsIn w.heap.size w a2 n2 xs) (hg:Z0 w) (hk:k=1) (hf:fwOk k i o ps xs=true) :
  Calls Tryz.prog 143 #[.agg #[.int .i64 k,.int .i64 i,.int .i64 o,.slice a n cp],.slice a2 n2 c4] w (RowB w (fwN k i o ps xs) (fwB k i o ps xs)):=by
 have hlt:=hg.lt
 have hal:Below w.heap.size w (w.alloc (.cells #[.int .i64 k,.int .i64 i,.int .i64 o,.slice a n cp] 38 (0,0))):=(Below.refl _ _).alloc (Nat.le_refl _) _
 have hb0:=heap_alloc_new w (.cells #[.int .i64 k,.int .i64 i,.int .i64 o,.slice a n cp] 38 (0,0))
 have hs0:w.heap.size<(w.alloc (.cells #[.int .i64 k,.int .i64 i,.int .i64 o,.slice a n cp] 38 (0,0))).heap.size:=by simp
 have HK:=Lib.hid (J0 (w.alloc (.cells #[.int .i64 k,.int .i64 i,.int .i64 o,.slice a n cp] 38 (0,0))) k i o a n cp ps ((h1.below hal (Nat.le_refl _)).le hal.size) hcp hcap)
 have HV:=Lib.hid fun (w1:World) (hb1:Below w.heap.size w w1)=>Qv w1 a2 n2 c4 xs ((h2.below hb1 (Nat.le_refl _)).le hb1.size)
 have hlx:=h2.len
 obtain ⟨e1,e2⟩:=Qgv hf
 rw [e1,e2]
 unfold fwOk at hf
 simp only [Bool.and_eq_true,decide_eq_true_eq] at hf
 obtain ⟨⟨f1,f2⟩,f3⟩:=hf
 have hn4:k=4->1<=n:=fun hk4=>by
  have h:=f1
  unfold Jz at h
  simp only [Bool.and_eq_true,decide_eq_true_eq] at h
  have hl:=h.1.2
  rw [h1.len] at hl
  unfold opSz at hl
  rw [h.1.1.1.1.2,h.1.1.1.2,hk4] at hl
  simp at hl
  omega
 rw [f1] at HK
 rw [Hid] at HV
 simp only [f2] at HV
 replace HV:=Lib.hid HV
 rw [hlx] at f3
 have hne:((n2:Int) != i)=false:=by simp [f3]
 have HB0:=Lib.hid hb0
 have HA:=Lib.hid hal
 have H1:=Lib.hid h1
 have H2:=Lib.hid h2
 have HG:=Lib.hid hg
 subst hk
 clear hn4
 clear h1 h2 hg hal hb0 e1 e2 f1 f2 hlx
 go_enter Tryz.func143,Tryz.ntmps143
 go_wp2_with fail
 refine HK.out.mono ?_
 rintro e w1 ⟨rfl,hb1⟩
 have hw1:=HA.out.trans (hb1.mono HA.out.size)
 have hbx:=(hb1.block w.heap.size hs0).trans HB0.out
 obtain ⟨c0,c1,c2,c3⟩:=Qs hbx
 have HW1:=Lib.hid hw1
 clear hb1 hw1 hbx
 go_wp2_with fail
 refine (HV.out w1 HW1.out).mono ?_
 rintro e w2 ⟨rfl,rfl⟩
 go_wp2_with fail
 refine (Qn3 w1 i o a n cp).mono ?_
 rintro e w3 ⟨rfl,hb3⟩
 have hw3:=HW1.out.trans (hb3.mono HW1.out.size)
 have I1:=(H1.out.below hw3 (Nat.le_refl _)).le hw3.size
 have I2:=(H2.out.below hw3 (Nat.le_refl _)).le hw3.size
 have IG:=HG.out.below hlt hw3
 have HC:=Lib.hid (Qc9 w3 1 i o a n cp ps a2 n2 c4 xs I1 hcp hcap I2 IG)
 have HW3:=Lib.hid hw3
 have hm:=Qee i o a n cp
 clear hb3 hw3 I1 I2 IG c0 c1 c2 c3
 go_wp2_with fail
 refine HC.out.mono ?_
 rintro e w4 ⟨v,rfl,hr,hb4⟩
 go_wp2_with fail
 go_ret2
 exact ⟨v,by simp,hr.le HW3.out.size,HW3.out.trans (hb4.mono HW3.out.size)⟩
theorem Qew (i o:Int) (a:Option Addr) (n cp:Nat) (w:World):(method 262 304 (.agg #[.slice a n cp]) "loop.example/g01407/impl.ahead").run Tryz.prog w = .ok (353,.agg #[.slice a n cp]) w:=by kernel_rfl
theorem Qfs (w:World) (k i o:Int) (a:Option Addr) (n cp:Nat) (ps:List Int) (a2:Option Addr) (n2 c4:Nat) (xs:List Int) (h1:IntsIn w.heap.size w a n ps) (hcp:n<=cp) (hcap:cp<=9223372036854775807) (h2:IntsIn w.heap.size w a2 n2 xs) (hg:Z0 w) (hk:k=2) (hf:fwOk k i o ps xs=true) :
  Calls Tryz.prog 143 #[.agg #[.int .i64 k,.int .i64 i,.int .i64 o,.slice a n cp],.slice a2 n2 c4] w (RowB w (fwN k i o ps xs) (fwB k i o ps xs)):=by
 have hlt:=hg.lt
 have hal:Below w.heap.size w (w.alloc (.cells #[.int .i64 k,.int .i64 i,.int .i64 o,.slice a n cp] 38 (0,0))):=(Below.refl _ _).alloc (Nat.le_refl _) _
 have hb0:=heap_alloc_new w (.cells #[.int .i64 k,.int .i64 i,.int .i64 o,.slice a n cp] 38 (0,0))
 have hs0:w.heap.size<(w.alloc (.cells #[.int .i64 k,.int .i64 i,.int .i64 o,.slice a n cp] 38 (0,0))).heap.size:=by simp
 have HK:=Lib.hid (J0 (w.alloc (.cells #[.int .i64 k,.int .i64 i,.int .i64 o,.slice a n cp] 38 (0,0))) k i o a n cp ps ((h1.below hal (Nat.le_refl _)).le hal.size) hcp hcap)
 have HV:=Lib.hid fun (w1:World) (hb1:Below w.heap.size w w1)=>Qv w1 a2 n2 c4 xs ((h2.below hb1 (Nat.le_refl _)).le hb1.size)
 have hlx:=h2.len
 obtain ⟨e1,e2⟩:=Qgv hf
 rw [e1,e2]
 unfold fwOk at hf
 simp only [Bool.and_eq_true,decide_eq_true_eq] at hf
 obtain ⟨⟨f1,f2⟩,f3⟩:=hf
 have hn4:k=4->1<=n:=fun hk4=>by
  have h:=f1
  unfold Jz at h
  simp only [Bool.and_eq_true,decide_eq_true_eq] at h
  have hl:=h.1.2
  rw [h1.len] at hl
  unfold opSz at hl
  rw [h.1.1.1.1.2,h.1.1.1.2,hk4] at hl
  simp at hl
  omega
 rw [f1] at HK
 rw [Hid] at HV
 simp only [f2] at HV
 replace HV:=Lib.hid HV
 rw [hlx] at f3
 have hne:((n2:Int) != i)=false:=by simp [f3]
 have HB0:=Lib.hid hb0
 have HA:=Lib.hid hal
 have H1:=Lib.hid h1
 have H2:=Lib.hid h2
 have HG:=Lib.hid hg
 subst hk
 clear hn4
 clear h1 h2 hg hal hb0 e1 e2 f1 f2 hlx
 go_enter Tryz.func143,Tryz.ntmps143
 go_wp2_with fail
 refine HK.out.mono ?_
 rintro e w1 ⟨rfl,hb1⟩
 have hw1:=HA.out.trans (hb1.mono HA.out.size)
 have hbx:=(hb1.block w.heap.size hs0).trans HB0.out
 obtain ⟨c0,c1,c2,c3⟩:=Qs hbx
 have HW1:=Lib.hid hw1
 clear hb1 hw1 hbx
 go_wp2_with fail
 refine (HV.out w1 HW1.out).mono ?_
 rintro e w2 ⟨rfl,rfl⟩
 go_wp2_with fail
 refine (Qk6 w1 i o a n cp).mono ?_
 rintro e w3 ⟨rfl,hb3⟩
 have hw3:=HW1.out.trans (hb3.mono HW1.out.size)
 have I1:=(H1.out.below hw3 (Nat.le_refl _)).le hw3.size
 have I2:=(H2.out.below hw3 (Nat.le_refl _)).le hw3.size
 have IG:=HG.out.below hlt hw3
 have HC:=Lib.hid (Qib w3 2 i o a n cp ps a2 n2 c4 xs I1 hcp hcap I2 IG)
 have HW3:=Lib.hid hw3
 have hm:=Qew i o a n cp
 clear hb3 hw3 I1 I2 IG c0 c1 c2 c3
 go_wp2_with fail
 refine HC.out.mono ?_
 rintro e w4 ⟨v,rfl,hr,hb4⟩
 go_wp2_with fail
 go_ret2
 exact ⟨v,by simp,hr.le HW3.out.size,HW3.out.trans (hb4.mono HW3.out.size)⟩
theorem Qex (i o:Int) (a:Option Addr) (n cp:Nat) (w:World):(method 262 306 (.agg #[]) "loop.example/g01407/impl.ahead").run Tryz.prog w = .ok (356,.agg #[]) w:=by kernel_rfl
theorem Qft (w:World) (k i o:Int) (a:Option Addr) (n cp:Nat) (ps:List Int) (a2:Option Addr) (n2 c4:Nat) (xs:List Int) (h1:IntsIn w.heap.size w a n ps) (hcp:n<=cp) (hcap:cp<=9223372036854775807) (h2:IntsIn w.heap.size w a2 n2 xs) (hg:Z0 w) (hk:k=3) (hf:fwOk k i o ps xs=true) :
  Calls Tryz.prog 143 #[.agg #[.int .i64 k,.int .i64 i,.int .i64 o,.slice a n cp],.slice a2 n2 c4] w (RowB w (fwN k i o ps xs) (fwB k i o ps xs)):=by
 have hlt:=hg.lt
 have hal:Below w.heap.size w (w.alloc (.cells #[.int .i64 k,.int .i64 i,.int .i64 o,.slice a n cp] 38 (0,0))):=(Below.refl _ _).alloc (Nat.le_refl _) _
 have hb0:=heap_alloc_new w (.cells #[.int .i64 k,.int .i64 i,.int .i64 o,.slice a n cp] 38 (0,0))
 have hs0:w.heap.size<(w.alloc (.cells #[.int .i64 k,.int .i64 i,.int .i64 o,.slice a n cp] 38 (0,0))).heap.size:=by simp
 have HK:=Lib.hid (J0 (w.alloc (.cells #[.int .i64 k,.int .i64 i,.int .i64 o,.slice a n cp] 38 (0,0))) k i o a n cp ps ((h1.below hal (Nat.le_refl _)).le hal.size) hcp hcap)
 have HV:=Lib.hid fun (w1:World) (hb1:Below w.heap.size w w1)=>Qv w1 a2 n2 c4 xs ((h2.below hb1 (Nat.le_refl _)).le hb1.size)
 have hlx:=h2.len
 obtain ⟨e1,e2⟩:=Qgv hf
 rw [e1,e2]
 unfold fwOk at hf
 simp only [Bool.and_eq_true,decide_eq_true_eq] at hf
 obtain ⟨⟨f1,f2⟩,f3⟩:=hf
 have hn4:k=4->1<=n:=fun hk4=>by
  have h:=f1
  unfold Jz at h
  simp only [Bool.and_eq_true,decide_eq_true_eq] at h
  have hl:=h.1.2
  rw [h1.len] at hl
  unfold opSz at hl
  rw [h.1.1.1.1.2,h.1.1.1.2,hk4] at hl
  simp at hl
  omega
 rw [f1] at HK
 rw [Hid] at HV
 simp only [f2] at HV
 replace HV:=Lib.hid HV
 rw [hlx] at f3
 have hne:((n2:Int) != i)=false:=by simp [f3]
 have HB0:=Lib.hid hb0
 have HA:=Lib.hid hal
 have H1:=Lib.hid h1
 have H2:=Lib.hid h2
 have HG:=Lib.hid hg
 subst hk
 clear hn4
 clear h1 h2 hg hal hb0 e1 e2 f1 f2 hlx
 go_enter Tryz.func143,Tryz.ntmps143
 go_wp2_with fail
 refine HK.out.mono ?_
 rintro e w1 ⟨rfl,hb1⟩
 have hw1:=HA.out.trans (hb1.mono HA.out.size)
 have hbx:=(hb1.block w.heap.size hs0).trans HB0.out
 obtain ⟨c0,c1,c2,c3⟩:=Qs hbx
 have HW1:=Lib.hid hw1
 clear hb1 hw1 hbx
 go_wp2_with fail
 refine (HV.out w1 HW1.out).mono ?_
 rintro e w2 ⟨rfl,rfl⟩
 go_wp2_with fail
 refine (Qk7 w1 i o a n cp).mono ?_
 rintro e w3 ⟨rfl,hb3⟩
 have hw3:=HW1.out.trans (hb3.mono HW1.out.size)
 have I1:=(H1.out.below hw3 (Nat.le_refl _)).le hw3.size
 have I2:=(H2.out.below hw3 (Nat.le_refl _)).le hw3.size
 have IG:=HG.out.below hlt hw3
 have HC:=Lib.hid (Qic w3 3 i o a n cp ps a2 n2 c4 xs I1 hcp hcap I2 IG #[] rfl)
 have HW3:=Lib.hid hw3
 have hm:=Qex i o a n cp
 clear hb3 hw3 I1 I2 IG c0 c1 c2 c3
 go_wp2_with fail
 refine HC.out.mono ?_
 rintro e w4 ⟨v,rfl,hr,hb4⟩
 go_wp2_with fail
 go_ret2
 exact ⟨v,by simp,hr.le HW3.out.size,HW3.out.trans (hb4.mono HW3.out.size)⟩
theorem Qef (i o:Int) (a:Option Addr) (n cp:Nat) (w:World):(method 262 307 (.agg #[.slice a n cp]) "loop.example/g01407/impl.ahead").run Tryz.prog w = .ok (363,.agg #[.slice a n cp]) w:=by kernel_rfl
theorem Qey (w:World) (k i o:Int) (a:Option Addr) (n cp:Nat) (ps:List Int) (a2:Option Addr) (n2 c4:Nat) (xs:List Int) (h1:IntsIn w.heap.size w a n ps) (hcp:n<=cp) (hcap:cp<=9223372036854775807) (h2:IntsIn w.heap.size w a2 n2 xs) (hg:Z0 w) (hk:k=4) (hf:fwOk k i o ps xs=true) :
  Calls Tryz.prog 143 #[.agg #[.int .i64 k,.int .i64 i,.int .i64 o,.slice a n cp],.slice a2 n2 c4] w (RowB w (fwN k i o ps xs) (fwB k i o ps xs)):=by
 have hlt:=hg.lt
 have hal:Below w.heap.size w (w.alloc (.cells #[.int .i64 k,.int .i64 i,.int .i64 o,.slice a n cp] 38 (0,0))):=(Below.refl _ _).alloc (Nat.le_refl _) _
 have hb0:=heap_alloc_new w (.cells #[.int .i64 k,.int .i64 i,.int .i64 o,.slice a n cp] 38 (0,0))
 have hs0:w.heap.size<(w.alloc (.cells #[.int .i64 k,.int .i64 i,.int .i64 o,.slice a n cp] 38 (0,0))).heap.size:=by simp
 have HK:=Lib.hid (J0 (w.alloc (.cells #[.int .i64 k,.int .i64 i,.int .i64 o,.slice a n cp] 38 (0,0))) k i o a n cp ps ((h1.below hal (Nat.le_refl _)).le hal.size) hcp hcap)
 have HV:=Lib.hid fun (w1:World) (hb1:Below w.heap.size w w1)=>Qv w1 a2 n2 c4 xs ((h2.below hb1 (Nat.le_refl _)).le hb1.size)
 have hlx:=h2.len
 obtain ⟨e1,e2⟩:=Qgv hf
 rw [e1,e2]
 unfold fwOk at hf
 simp only [Bool.and_eq_true,decide_eq_true_eq] at hf
 obtain ⟨⟨f1,f2⟩,f3⟩:=hf
 have hn4:k=4->1<=n:=fun hk4=>by
  have h:=f1
  unfold Jz at h
  simp only [Bool.and_eq_true,decide_eq_true_eq] at h
  have hl:=h.1.2
  rw [h1.len] at hl
  unfold opSz at hl
  rw [h.1.1.1.1.2,h.1.1.1.2,hk4] at hl
  simp at hl
  omega
 rw [f1] at HK
 rw [Hid] at HV
 simp only [f2] at HV
 replace HV:=Lib.hid HV
 rw [hlx] at f3
 have hne:((n2:Int) != i)=false:=by simp [f3]
 have HB0:=Lib.hid hb0
 have HA:=Lib.hid hal
 have H1:=Lib.hid h1
 have H2:=Lib.hid h2
 have HG:=Lib.hid hg
 subst hk
 have hn5:=hn4 rfl
 clear hn4
 clear h1 h2 hg hal hb0 e1 e2 f1 f2 hlx
 go_enter Tryz.func143,Tryz.ntmps143
 go_wp2_with fail
 refine HK.out.mono ?_
 rintro e w1 ⟨rfl,hb1⟩
 have hw1:=HA.out.trans (hb1.mono HA.out.size)
 have hbx:=(hb1.block w.heap.size hs0).trans HB0.out
 obtain ⟨c0,c1,c2,c3⟩:=Qs hbx
 have HW1:=Lib.hid hw1
 clear hb1 hw1 hbx
 go_wp2_with fail
 refine (HV.out w1 HW1.out).mono ?_
 rintro e w2 ⟨rfl,rfl⟩
 go_wp2_with fail
 refine (Qk8 w1 i o a n cp).mono ?_
 rintro e w3 ⟨rfl,hb3⟩
 have hw3:=HW1.out.trans (hb3.mono HW1.out.size)
 have I1:=(H1.out.below hw3 (Nat.le_refl _)).le hw3.size
 have I2:=(H2.out.below hw3 (Nat.le_refl _)).le hw3.size
 have IG:=HG.out.below hlt hw3
 have HC:=Lib.hid (Qge w3 4 i o a n cp ps a2 n2 c4 xs I1 hcp hcap I2 IG hn5)
 have HW3:=Lib.hid hw3
 have hm:=Qef i o a n cp
 clear hb3 hw3 I1 I2 IG c0 c1 c2 c3
 go_wp2_with fail
 refine HC.out.mono ?_
 rintro e w4 ⟨v,rfl,hr,hb4⟩
 go_wp2_with fail
 go_ret2
 exact ⟨v,by simp,hr.le HW3.out.size,HW3.out.trans (hb4.mono HW3.out.size)⟩
theorem Qfu (i o:Int) (a:Option Addr) (n cp:Nat) (w:World):(method 262 309 (.agg #[.int .i64 o,.int .i64 i,.slice a n cp]) "loop.example/g01407/impl.ahead").run Tryz.prog w = .ok (365,.agg #[.int .i64 o,.int .i64 i,.slice a n cp]) w:=by kernel_rfl
theorem Qgf (w:World) (k i o:Int) (a:Option Addr) (n cp:Nat) (ps:List Int) (a2:Option Addr) (n2 c4:Nat) (xs:List Int) (h1:IntsIn w.heap.size w a n ps) (hcp:n<=cp) (hcap:cp<=9223372036854775807) (h2:IntsIn w.heap.size w a2 n2 xs) (hg:Z0 w) (hk:k=5) (hf:fwOk k i o ps xs=true) :
  Calls Tryz.prog 143 #[.agg #[.int .i64 k,.int .i64 i,.int .i64 o,.slice a n cp],.slice a2 n2 c4] w (RowB w (fwN k i o ps xs) (fwB k i o ps xs)):=by
 have hlt:=hg.lt
 have hal:Below w.heap.size w (w.alloc (.cells #[.int .i64 k,.int .i64 i,.int .i64 o,.slice a n cp] 38 (0,0))):=(Below.refl _ _).alloc (Nat.le_refl _) _
 have hb0:=heap_alloc_new w (.cells #[.int .i64 k,.int .i64 i,.int .i64 o,.slice a n cp] 38 (0,0))
 have hs0:w.heap.size<(w.alloc (.cells #[.int .i64 k,.int .i64 i,.int .i64 o,.slice a n cp] 38 (0,0))).heap.size:=by simp
 have HK:=Lib.hid (J0 (w.alloc (.cells #[.int .i64 k,.int .i64 i,.int .i64 o,.slice a n cp] 38 (0,0))) k i o a n cp ps ((h1.below hal (Nat.le_refl _)).le hal.size) hcp hcap)
 have HV:=Lib.hid fun (w1:World) (hb1:Below w.heap.size w w1)=>Qv w1 a2 n2 c4 xs ((h2.below hb1 (Nat.le_refl _)).le hb1.size)
 have hlx:=h2.len
 obtain ⟨e1,e2⟩:=Qgv hf
 rw [e1,e2]
 unfold fwOk at hf
 simp only [Bool.and_eq_true,decide_eq_true_eq] at hf
 obtain ⟨⟨f1,f2⟩,f3⟩:=hf
 have hn4:k=4->1<=n:=fun hk4=>by
  have h:=f1
  unfold Jz at h
  simp only [Bool.and_eq_true,decide_eq_true_eq] at h
  have hl:=h.1.2
  rw [h1.len] at hl
  unfold opSz at hl
  rw [h.1.1.1.1.2,h.1.1.1.2,hk4] at hl
  simp at hl
  omega
 rw [f1] at HK
 rw [Hid] at HV
 simp only [f2] at HV
 replace HV:=Lib.hid HV
 rw [hlx] at f3
 have hne:((n2:Int) != i)=false:=by simp [f3]
 have HB0:=Lib.hid hb0
 have HA:=Lib.hid hal
 have H1:=Lib.hid h1
 have H2:=Lib.hid h2
 have HG:=Lib.hid hg
 subst hk
 clear hn4
 clear h1 h2 hg hal hb0 e1 e2 f1 f2 hlx
 go_enter Tryz.func143,Tryz.ntmps143
 go_wp2_with fail
 refine HK.out.mono ?_
 rintro e w1 ⟨rfl,hb1⟩
 have hw1:=HA.out.trans (hb1.mono HA.out.size)
 have hbx:=(hb1.block w.heap.size hs0).trans HB0.out
 obtain ⟨c0,c1,c2,c3⟩:=Qs hbx
 have HW1:=Lib.hid hw1
 clear hb1 hw1 hbx
 go_wp2_with fail
 refine (HV.out w1 HW1.out).mono ?_
 rintro e w2 ⟨rfl,rfl⟩
 go_wp2_with fail
 refine (Qk9 w1 i o a n cp).mono ?_
 rintro e w3 ⟨rfl,hb3⟩
 have hw3:=HW1.out.trans (hb3.mono HW1.out.size)
 have I1:=(H1.out.below hw3 (Nat.le_refl _)).le hw3.size
 have I2:=(H2.out.below hw3 (Nat.le_refl _)).le hw3.size
 have IG:=HG.out.below hlt hw3
 have HC:=Lib.hid (Qjp w3 5 i o a n cp ps a2 n2 c4 xs I1 hcp hcap I2 IG)
 have HW3:=Lib.hid hw3
 have hm:=Qfu i o a n cp
 clear hb3 hw3 I1 I2 IG c0 c1 c2 c3
 go_wp2_with fail
 refine HC.out.mono ?_
 rintro e w4 ⟨v,rfl,hr,hb4⟩
 go_wp2_with fail
 go_ret2
 exact ⟨v,by simp,hr.le HW3.out.size,HW3.out.trans (hb4.mono HW3.out.size)⟩
theorem Qmz {k i o:Int} {ps xs:List Int} (h:fwOk k i o ps xs=true):k=1\/k=2\/k=3\/k=4\/k=5:=by
 unfold fwOk Jz at h
 simp only [Bool.and_eq_true] at h
 have:=Qa2 h.1.1.1.1.1.1.1
 omega
theorem Qeg (w:World) (k i o:Int) (a:Option Addr) (n cp:Nat) (ps:List Int) (a2:Option Addr) (n2 c4:Nat) (xs:List Int) (h1:IntsIn w.heap.size w a n ps) (hcp:n<=cp) (hcap:cp<=9223372036854775807) (h2:IntsIn w.heap.size w a2 n2 xs) (hg:Z0 w) :
  Calls Tryz.prog 143 #[.agg #[.int .i64 k,.int .i64 i,.int .i64 o,.slice a n cp],.slice a2 n2 c4] w (RowB w (fwN k i o ps xs) (fwB k i o ps xs)):=by
 cases hf:fwOk k i o ps xs with
 | true =>
  rcases Qmz hf with hk | hk | hk | hk | hk
  ·exact Qev w k i o a n cp ps a2 n2 c4 xs h1 hcp hcap h2 hg hk hf
  ·exact Qfs w k i o a n cp ps a2 n2 c4 xs h1 hcp hcap h2 hg hk hf
  ·exact Qft w k i o a n cp ps a2 n2 c4 xs h1 hcp hcap h2 hg hk hf
  ·exact Qey w k i o a n cp ps a2 n2 c4 xs h1 hcp hcap h2 hg hk hf
  ·exact Qgf w k i o a n cp ps a2 n2 c4 xs h1 hcp hcap h2 hg hk hf
 | false =>
  have hlt:=hg.lt
  have hal:Below w.heap.size w (w.alloc (.cells #[.int .i64 k,.int .i64 i,.int .i64 o,.slice a n cp] 38 (0,0))):=(Below.refl _ _).alloc (Nat.le_refl _) _
  have hb0:=heap_alloc_new w (.cells #[.int .i64 k,.int .i64 i,.int .i64 o,.slice a n cp] 38 (0,0))
  have hs0:w.heap.size<(w.alloc (.cells #[.int .i64 k,.int .i64 i,.int .i64 o,.slice a n cp] 38 (0,0))).heap.size:=by simp
  have HK:=Lib.hid (J0 (w.alloc (.cells #[.int .i64 k,.int .i64 i,.int .i64 o,.slice a n cp] 38 (0,0))) k i o a n cp ps ((h1.below hal (Nat.le_refl _)).le hal.size) hcp hcap)
  have HV:=Lib.hid fun (w1:World) (hb1:Below w.heap.size w w1)=>Qv w1 a2 n2 c4 xs ((h2.below hb1 (Nat.le_refl _)).le hb1.size)
  have hlx:=h2.len
  rw [(Ql2 hf).1,(Ql2 hf).2]
  unfold fwOk at hf
  obtain ⟨p,hp⟩ : ∃ p,Jz k i o ps=p:=⟨_,rfl⟩
  obtain ⟨q,hq⟩ : ∃ q,Qm xs=q:=⟨_,rfl⟩
  rw [hp,hq,hlx] at hf
  rw [hp] at HK
  rw [Hid] at HV
  simp only [hq] at HV
  replace HV:=Lib.hid HV
  have HB0:=Lib.hid hb0
  have HA:=Lib.hid hal
  clear h1 h2 hg hal hb0 hp hq hlx hlt
  cases p
  ·go_enter Tryz.func143,Tryz.ntmps143
   go_wp2_with fail
   refine HK.out.mono ?_
   rintro e w1 ⟨rfl,hb1⟩
   have HW1:=Lib.hid (HA.out.trans (hb1.mono HA.out.size))
   clear hb1
   go_wp2_with fail
   go_ret2
   exact ⟨_,rfl,Row.nil _ _,HW1.out⟩
  ·cases q
   ·go_enter Tryz.func143,Tryz.ntmps143
    go_wp2_with fail
    refine HK.out.mono ?_
    rintro e w1 ⟨rfl,hb1⟩
    have HW1:=Lib.hid (HA.out.trans (hb1.mono HA.out.size))
    clear hb1
    go_wp2_with fail
    refine (HV.out w1 HW1.out).mono ?_
    rintro e w2 ⟨rfl,rfl⟩
    go_wp2_with fail
    go_ret2
    exact ⟨_,rfl,Row.nil _ _,HW1.out⟩
   ·have hni : ¬ (n2:Int)=i:=by simpa using hf
    have hne:((n2:Int) != i)=true:=by simpa using hni
    clear hf hni
    go_enter Tryz.func143,Tryz.ntmps143
    go_wp2_with fail
    refine HK.out.mono ?_
    rintro e w1 ⟨rfl,hb1⟩
    have HW1:=Lib.hid (HA.out.trans (hb1.mono HA.out.size))
    obtain ⟨c0,c1,c2,c3⟩:=Qs ((hb1.block w.heap.size hs0).trans HB0.out)
    clear hb1
    go_wp2_with fail
    refine (HV.out w1 HW1.out).mono ?_
    rintro e w2 ⟨rfl,rfl⟩
    go_wp2_with fail
    go_ret2
    exact ⟨_,rfl,Row.nil _ _,HW1.out⟩
end Go.Proofs.YtcooobnaocbdjaaGreatDoor
