/-
  Pieces of one proof, without what is not wanted: Lives14, MachAll.
-/
import Derived.Test.YtngnfdnfpiiclaaGreatV08
import Derived.Test.YtngnfdnfpiiclaaGreatV20
import Derived.Test.YtngnfdnfpiiclaaGreatV28
import Derived.Test.YtngnfdnfpiiclaaGreatV32
set_option linter.unusedSimpArgs false
set_option linter.unusedVariables false
namespace Go.Proofs.YtngnfdnfpiiclaaGreat
open Go.RowKit
def p14:List Int:=[1,2]
def l14 (d:Int):List Ln:=[⟨1,2,3,50,d⟩]
theorem lv14_a0:(∀ j,j<1→¬ doneR 2 1 (way9 2 1 ⟨roomF p14 (l14 0) 3,20,[]⟩ j))∧doneR 2 1 (way9 2 1 ⟨roomF p14 (l14 0) 3,20,[]⟩ 1)∧payN p14 2 1 3 20 (way9 2 1 ⟨roomF p14 (l14 0) 3,20,[]⟩ 1)=1∧payE p14 2 1 3 20 (way9 2 1 ⟨roomF p14 (l14 0) 3,20,[]⟩ 1)=0∧payL p14 (l14 0) 2 1 3 20 (way9 2 1 ⟨roomF p14 (l14 0) 3,20,[]⟩ 1)=l14 20:=by
 unfold doneR
 decide +kernel
theorem lv14_a (h:HInv ⟨p14,l14 0,[],1⟩):stepF ⟨p14,l14 0,[],1⟩ ⟨3,2,1,3,0,20,0,0,0,0⟩=(⟨p14,l14 20,[],1⟩,⟨1,0⟩,0):=by
 have hi:=roomF_inv (ps:=p14) (ls:=l14 0) h.li 3
 have hr:routeS (roomF p14 (l14 0) 3) 2 1 20=way9 2 1 ⟨roomF p14 (l14 0) 3,20,[]⟩ 1:=(routeS_is hi 2 1 20).eq (route9_is hi 1 lv14_a0.1 lv14_a0.2.1)
 show ((⟨p14,payL p14 (l14 0) 2 1 3 20 (routeS (roomF p14 (l14 0) 3) 2 1 20),[],1⟩:Hs),(⟨payN p14 2 1 3 20 (routeS (roomF p14 (l14 0) 3) 2 1 20),0⟩:Gt),payE p14 2 1 3 20 (routeS (roomF p14 (l14 0) 3) 2 1 20))=_
 rw [hr,lv14_a0.2.2.1,lv14_a0.2.2.2.1,lv14_a0.2.2.2.2]
theorem lv14_b0:(∀ j,j<1→¬ doneR 2 1 (way9 2 1 ⟨roomF p14 (l14 20) 3,5,[]⟩ j))∧doneR 2 1 (way9 2 1 ⟨roomF p14 (l14 20) 3,5,[]⟩ 1)∧payN p14 2 1 3 5 (way9 2 1 ⟨roomF p14 (l14 20) 3,5,[]⟩ 1)=1∧payE p14 2 1 3 5 (way9 2 1 ⟨roomF p14 (l14 20) 3,5,[]⟩ 1)=0∧payL p14 (l14 20) 2 1 3 5 (way9 2 1 ⟨roomF p14 (l14 20) 3,5,[]⟩ 1)=l14 25:=by
 unfold doneR
 decide +kernel
theorem lv14_b (h:HInv ⟨p14,l14 20,[],1⟩):stepF ⟨p14,l14 20,[],1⟩ ⟨3,2,1,3,0,5,0,0,0,0⟩=(⟨p14,l14 25,[],1⟩,⟨1,0⟩,0):=by
 have hi:=roomF_inv (ps:=p14) (ls:=l14 20) h.li 3
 have hr:routeS (roomF p14 (l14 20) 3) 2 1 5=way9 2 1 ⟨roomF p14 (l14 20) 3,5,[]⟩ 1:=(routeS_is hi 2 1 5).eq (route9_is hi 1 lv14_b0.1 lv14_b0.2.1)
 show ((⟨p14,payL p14 (l14 20) 2 1 3 5 (routeS (roomF p14 (l14 20) 3) 2 1 5),[],1⟩:Hs),(⟨payN p14 2 1 3 5 (routeS (roomF p14 (l14 20) 3) 2 1 5),0⟩:Gt),payE p14 2 1 3 5 (routeS (roomF p14 (l14 20) 3) 2 1 5))=_
 rw [hr,lv14_b0.2.2.1,lv14_b0.2.2.2.1,lv14_b0.2.2.2.2]
theorem lv14_c0:(∀ j,j<1→¬ doneR 2 1 (way9 2 1 ⟨roomF p14 (l14 25) 3,26,[]⟩ j))∧doneR 2 1 (way9 2 1 ⟨roomF p14 (l14 25) 3,26,[]⟩ 1)∧payN p14 2 1 3 26 (way9 2 1 ⟨roomF p14 (l14 25) 3,26,[]⟩ 1)=0∧payE p14 2 1 3 26 (way9 2 1 ⟨roomF p14 (l14 25) 3,26,[]⟩ 1)=11∧payL p14 (l14 25) 2 1 3 26 (way9 2 1 ⟨roomF p14 (l14 25) 3,26,[]⟩ 1)=l14 25:=by
 unfold doneR
 decide +kernel
theorem lv14_c (h:HInv ⟨p14,l14 25,[],1⟩):stepF ⟨p14,l14 25,[],1⟩ ⟨3,2,1,3,0,26,0,0,0,0⟩=(⟨p14,l14 25,[],1⟩,⟨0,0⟩,11):=by
 have hi:=roomF_inv (ps:=p14) (ls:=l14 25) h.li 3
 have hr:routeS (roomF p14 (l14 25) 3) 2 1 26=way9 2 1 ⟨roomF p14 (l14 25) 3,26,[]⟩ 1:=(routeS_is hi 2 1 26).eq (route9_is hi 1 lv14_c0.1 lv14_c0.2.1)
 show ((⟨p14,payL p14 (l14 25) 2 1 3 26 (routeS (roomF p14 (l14 25) 3) 2 1 26),[],1⟩:Hs),(⟨payN p14 2 1 3 26 (routeS (roomF p14 (l14 25) 3) 2 1 26),0⟩:Gt),payE p14 2 1 3 26 (routeS (roomF p14 (l14 25) 3) 2 1 26))=_
 rw [hr,lv14_c0.2.2.1,lv14_c0.2.2.2.1,lv14_c0.2.2.2.2]
theorem lv14_o1:stepF ⟨[],[],[],1⟩ ⟨1,1,0,0,0,0,0,0,0,0⟩=(⟨[1],[],[],1⟩,⟨0,0⟩,0):=by
 show ((⟨openP [] 1,[],[],1⟩:Hs),(⟨0,0⟩:Gt),openE [] 1)=_
 rw [show openP [] 1=[1] by decide,show openE [] 1=0 by decide]
theorem lv14_o2:stepF ⟨[1],[],[],1⟩ ⟨1,2,0,0,0,0,0,0,0,0⟩=(⟨p14,[],[],1⟩,⟨0,0⟩,0):=by
 show ((⟨openP [1] 2,[],[],1⟩:Hs),(⟨0,0⟩:Gt),openE [1] 2)=_
 rw [show openP [1] 2=p14 by decide,show openE [1] 2=0 by decide]
theorem lv14_o3:stepF ⟨p14,[],[],1⟩ ⟨2,1,2,3,0,50,0,0,0,0⟩=(⟨p14,l14 0,[],1⟩,⟨0,0⟩,0):=by
 show ((⟨p14,trustL p14 [] 1 2 3 50,[],1⟩:Hs),(⟨0,0⟩:Gt),trustE p14 [] 1 2 3 50)=_
 rw [show trustL p14 [] 1 2 3 50=l14 0 by decide +kernel,show trustE p14 [] 1 2 3 50=0 by decide +kernel]
theorem lv14_p:stepF ⟨p14,l14 20,[],1⟩ ⟨9,1,0,3,0,0,0,0,0,0⟩=(⟨p14,l14 20,[],1⟩,⟨20,0⟩,0):=by
 show ((⟨p14,l14 20,[],1⟩:Hs),(⟨posL (l14 20) 1 3,0⟩:Gt),(0:Int))=_
 rw [show posL (l14 20) 1 3=20 by decide +kernel]
theorem lv14_d:stepF ⟨p14,l14 20,[],1⟩ ⟨8,1,2,3,0,0,0,0,0,0⟩=(⟨p14,l14 20,[],1⟩,⟨20,50⟩,0):=by
 show ((⟨p14,l14 20,[],1⟩:Hs),(⟨(lnAt (l14 20) 1 2 3).db,(lnAt (l14 20) 1 2 3).li⟩:Gt),(0:Int))=_
 rw [show (lnAt (l14 20) 1 2 3).db=20 by decide +kernel,show (lnAt (l14 20) 1 2 3).li=50 by decide +kernel]
theorem runF_ok {τ τ':Hs} {s:Stp} {r:List Stp} {i:Nat} {gs:List Gt} {g:Gt} (h:stepF τ s=(τ',g,0)):runF τ (s::r) i gs=runF τ' r (i + 1) (gs++[g]):=by
 rw [show runF τ (s::r) i gs=if (stepF τ s).2.2≠0 then (τ,(stepF τ s).2.2,i,[]) else runF (stepF τ s).1 r (i + 1) (gs++[(stepF τ s).2.1]) from rfl,h,if_neg (fun e=>e rfl)]
theorem runF_no {τ τ':Hs} {s:Stp} {r:List Stp} {i:Nat} {gs:List Gt} {g:Gt} {e:Int} (h:stepF τ s=(τ',g,e)) (he:e≠0):runF τ (s::r) i gs=(τ,e,i,[]):=by
 rw [show runF τ (s::r) i gs=if (stepF τ s).2.2≠0 then (τ,(stepF τ s).2.2,i,[]) else runF (stepF τ s).1 r (i + 1) (gs++[(stepF τ s).2.1]) from rfl,h,if_pos he]
theorem applyF_run {σ τ:Hs} {xs:List Stp} {e:Int} {k:Nat} {gs:List Gt} (hl:1≤xs.length∧xs.length≤8) (h:runF σ xs 0 []=(τ,e,k,gs)):applyF σ xs=if e=0 then (τ,0,k,gs) else (σ,e,k,[]):=by
 unfold applyF
 rw [if_neg (by omega),h]
 by_cases he:e=0
 ·rw [if_neg (fun q=>q he),if_pos he,he]
 ·rw [if_pos he,if_neg he]
theorem lv14_A:applyF ⟨[],[],[],1⟩ [⟨1,1,0,0,0,0,0,0,0,0⟩,⟨1,2,0,0,0,0,0,0,0,0⟩,⟨2,1,2,3,0,50,0,0,0,0⟩]=(⟨p14,l14 0,[],1⟩,0,0,[⟨0,0⟩,⟨0,0⟩,⟨0,0⟩]) :=
 (applyF_run ⟨by decide,by decide⟩ ((runF_ok lv14_o1).trans ((runF_ok lv14_o2).trans ((runF_ok lv14_o3).trans rfl)))).trans rfl
theorem lv14_B (h:HInv ⟨p14,l14 0,[],1⟩):applyF ⟨p14,l14 0,[],1⟩ [⟨3,2,1,3,0,20,0,0,0,0⟩,⟨9,1,0,3,0,0,0,0,0,0⟩]=(⟨p14,l14 20,[],1⟩,0,0,[⟨1,0⟩,⟨20,0⟩]) :=
 (applyF_run ⟨by decide,by decide⟩ ((runF_ok (lv14_a h)).trans ((runF_ok lv14_p).trans rfl))).trans rfl
theorem lv14_C (h:HInv ⟨p14,l14 20,[],1⟩) (h2:HInv ⟨p14,l14 25,[],1⟩):applyF ⟨p14,l14 20,[],1⟩ [⟨3,2,1,3,0,5,0,0,0,0⟩,⟨3,2,1,3,0,26,0,0,0,0⟩]=(⟨p14,l14 20,[],1⟩,11,1,[]) :=
 (applyF_run ⟨by decide,by decide⟩ ((runF_ok (lv14_b h)).trans (runF_no (lv14_c h2) (by decide)))).trans rfl
theorem lv14_D:applyF ⟨p14,l14 20,[],1⟩ [⟨8,1,2,3,0,0,0,0,0,0⟩]=(⟨p14,l14 20,[],1⟩,0,0,[⟨20,50⟩]) :=
 (applyF_run ⟨by decide,by decide⟩ ((runF_ok lv14_d).trans rfl)).trans rfl
theorem lv14_E:applyF ⟨p14,l14 20,[],1⟩ []=(⟨p14,l14 20,[],1⟩,3,0,[]):=rfl
set_option maxHeartbeats 32000000 in
set_option maxRecDepth 100000 in
theorem lives14_any {Is:World→Nat→Hs→Prop} {Ok:Stp→Prop} (HO:∀ s:Stp,s.kd=1∨s.kd=2∨s.kd=3∨s.kd=8∨s.kd=9→Ok s) (HM:MachProg Ok Is):Lives14:=fun w=>by
 have MP:=Lib.hid HM
 have I0:Hid (HInv ⟨[],[],[],1⟩):=Lib.hid HInv.start
 have I1:Hid (HInv ⟨p14,l14 0,[],1⟩):=Lib.hid (by have:=I0.out.apply [⟨1,1,0,0,0,0,0,0,0,0⟩,⟨1,2,0,0,0,0,0,0,0,0⟩,⟨2,1,2,3,0,50,0,0,0,0⟩]; rwa [lv14_A] at this)
 have I2:Hid (HInv ⟨p14,l14 20,[],1⟩):=Lib.hid (by have:=I1.out.apply [⟨3,2,1,3,0,20,0,0,0,0⟩,⟨9,1,0,3,0,0,0,0,0,0⟩]; rwa [lv14_B I1.out] at this)
 have I3:Hid (HInv ⟨p14,l14 25,[],1⟩):=Lib.hid (by have:=I2.out.step ⟨3,2,1,3,0,5,0,0,0,0⟩; rwa [lv14_b I2.out] at this)
 have OK:=Lib.hid HO
 clear HM HO
 go_enter Tryz.func10,Tryz.ntmps10
 go_wp2_with fail
 refine (MP.out.new _).mono ?_
 rintro e w1 ⟨g,rfl,hg,hg0,b1⟩
 have IG0:=Lib.hid hg
 have GB:=Lib.hid hg0
 have B1:=Lib.hid b1
 clear hg hg0 b1
 go_wp2_with fail
 have ba:=(Below.refl w1.heap.size w1).alloc (Nat.le_refl _) (.cells #[.int .u8 1,.int .u8 1,.int .u8 0,.int .u8 0,.int .u8 0,.int .i64 0,.int .i64 0,.int .i64 0,.int .i64 0,.int .u64 0,.int .u8 1,.int .u8 2,.int .u8 0,.int .u8 0,.int .u8 0,.int .i64 0,.int .i64 0,.int .i64 0,.int .i64 0,.int .u64 0,.int .u8 2,.int .u8 1,.int .u8 2,.int .u8 3,.int .u8 0,.int .i64 50,.int .i64 0,.int .i64 0,.int .i64 0,.int .u64 0] 87)
 have S00:=Lib.hid (Blk.new w1 #[.int .u8 1,.int .u8 1,.int .u8 0,.int .u8 0,.int .u8 0,.int .i64 0,.int .i64 0,.int .i64 0,.int .i64 0,.int .u64 0,.int .u8 1,.int .u8 2,.int .u8 0,.int .u8 0,.int .u8 0,.int .i64 0,.int .i64 0,.int .i64 0,.int .i64 0,.int .u64 0,.int .u8 2,.int .u8 1,.int .u8 2,.int .u8 3,.int .u8 0,.int .i64 50,.int .i64 0,.int .i64 0,.int .i64 0,.int .u64 0] 87)
 have S0N:Hid (w1.heap.size≠g):=Lib.hid (Nat.ne_of_gt (MP.out.lt IG0.out))
 generalize w1.alloc (.cells #[.int .u8 1,.int .u8 1,.int .u8 0,.int .u8 0,.int .u8 0,.int .i64 0,.int .i64 0,.int .i64 0,.int .i64 0,.int .u64 0,.int .u8 1,.int .u8 2,.int .u8 0,.int .u8 0,.int .u8 0,.int .i64 0,.int .i64 0,.int .i64 0,.int .i64 0,.int .u64 0,.int .u8 2,.int .u8 1,.int .u8 2,.int .u8 3,.int .u8 0,.int .i64 50,.int .i64 0,.int .i64 0,.int .i64 0,.int .u64 0] 87)=w2 at *
 have I_1:=Lib.hid (MP.out.below IG0.out ba)
 have B_2:=Lib.hid (B1.out.trans (ba.mono B1.out.size))
 clear IG0 B1
 clear ba
 refine (one_any _ _ _ _).mono ?_
 rintro e w3 ⟨rfl,b⟩
 have I_3:=Lib.hid (MP.out.below I_1.out b)
 have B_4:=Lib.hid (B_2.out.trans (b.mono B_2.out.size))
 have S0_5:=Lib.hid (S00.out.below b S00.out.lt)
 clear I_1 B_2 S00
 clear b
 have CA:=Lib.hid (MP.out.apply I_3.out I0.out ⟨_,3,3,[⟨1,1,0,0,0,0,0,0,0,0⟩,⟨1,2,0,0,0,0,0,0,0,0⟩,⟨2,1,2,3,0,50,0,0,0,0⟩]⟩ (stepsIn_blk (xs:=[⟨1,1,0,0,0,0,0,0,0,0⟩,⟨1,2,0,0,0,0,0,0,0,0⟩,⟨2,1,2,3,0,50,0,0,0,0⟩]) S0_5.out rfl (by intro x hx; simp only [List.mem_cons,List.not_mem_nil,or_false] at hx; rcases hx with rfl | rfl | rfl <;> exact stp_fits _ (by decide)) (by decide)) (fun s hs=>OK.out s (by simp only [List.mem_cons,List.not_mem_nil,or_false] at hs; rcases hs with rfl | rfl | rfl <;> decide)))
 unfold ApplyPost at CA
 rw [lv14_A] at CA
 go_wp2_with fail
 refine CA.out.mono ?_
 rintro e w4 ⟨v0,rfl,tv,ig,k⟩
 have TN0:Hid (g<w3.heap.size):=Lib.hid (MP.out.lt I_3.out)
 have B_6:=Lib.hid (B_4.out.trans (k.below B_4.out.size (fun j hj e=>by have:=GB.out; omega)))
 clear I_3 B_4
 have IGa0:=Lib.hid ig
 have TVa0:=Lib.hid tv
 clear ig tv k CA
 go_upto_region 3 with (refine wpList_store_whole rfl 36 (.tmp 2) (.tmp 16) rfl w4.heap.size #[.int .i64 0,.int .i64 0,v0] rfl rfl 36 _ (Blk.new w4 #[.int .i64 0,.int .i64 0,.slice none 0 0] 36).out (by kernel_rfl) rfl (by obtain ⟨_,_,rfl⟩:=TVa0.out.shape; simp [Value.oneCell']) ?_)
 have ba:Below w4.heap.size w4 ((w4.alloc (.cells #[.int .i64 0,.int .i64 0,.slice none 0 0] 36)).setRow w4.heap.size #[.int .i64 0,.int .i64 0,v0]):=below_setRow ((Below.refl w4.heap.size w4).alloc (Nat.le_refl _) (.cells #[.int .i64 0,.int .i64 0,.slice none 0 0] 36)) (Nat.le_refl _) _
 have R00:=Lib.hid (show Blk ((w4.alloc (.cells #[.int .i64 0,.int .i64 0,.slice none 0 0] 36)).setRow w4.heap.size #[.int .i64 0,.int .i64 0,v0]) w4.heap.size #[.int .i64 0,.int .i64 0,v0] 36 from setRow_heap _ _ _ _ _ (0,0) (Blk.new w4 #[.int .i64 0,.int .i64 0,.slice none 0 0] 36))
 have R0N:Hid (w4.heap.size≠g):=Lib.hid (Nat.ne_of_gt (MP.out.lt IGa0.out))
 have R0Z:Hid (w.heap.size≤w4.heap.size):=Lib.hid B_6.out.size
 generalize (w4.alloc (.cells #[.int .i64 0,.int .i64 0,.slice none 0 0] 36)).setRow w4.heap.size #[.int .i64 0,.int .i64 0,v0]=w5 at *
 have K0:Hid (Keep (·=g) w4 w5):=Lib.hid (Keep.of_below ba)
 have B_7:=Lib.hid (B_6.out.trans (ba.mono B_6.out.size))
 have I_8:=Lib.hid (MP.out.below IGa0.out ba)
 clear B_6 IGa0
 clear ba
 go_upto_region 4 with (refine wpList_store_whole rfl 87 (.tmp 3) (.tmp 17) rfl w5.heap.size #[.int .u8 3,.int .u8 2,.int .u8 1,.int .u8 3,.int .u8 0,.int .i64 20,.int .i64 0,.int .i64 0,.int .i64 0,.int .u64 0] rfl rfl 87 _ (Blk.new w5 #[.int .u8 0,.int .u8 0,.int .u8 0,.int .u8 0,.int .u8 0,.int .i64 0,.int .i64 0,.int .i64 0,.int .i64 0,.int .u64 0] 87).out (by kernel_rfl) rfl (by simp [Value.oneCell']) ?_)
 have ba:Below w5.heap.size w5 ((w5.alloc (.cells #[.int .u8 0,.int .u8 0,.int .u8 0,.int .u8 0,.int .u8 0,.int .i64 0,.int .i64 0,.int .i64 0,.int .i64 0,.int .u64 0] 87)).setRow w5.heap.size #[.int .u8 3,.int .u8 2,.int .u8 1,.int .u8 3,.int .u8 0,.int .i64 20,.int .i64 0,.int .i64 0,.int .i64 0,.int .u64 0]):=below_setRow ((Below.refl w5.heap.size w5).alloc (Nat.le_refl _) (.cells #[.int .u8 0,.int .u8 0,.int .u8 0,.int .u8 0,.int .u8 0,.int .i64 0,.int .i64 0,.int .i64 0,.int .i64 0,.int .u64 0] 87)) (Nat.le_refl _) _
 have P0:=Lib.hid (show Blk ((w5.alloc (.cells #[.int .u8 0,.int .u8 0,.int .u8 0,.int .u8 0,.int .u8 0,.int .i64 0,.int .i64 0,.int .i64 0,.int .i64 0,.int .u64 0] 87)).setRow w5.heap.size #[.int .u8 3,.int .u8 2,.int .u8 1,.int .u8 3,.int .u8 0,.int .i64 20,.int .i64 0,.int .i64 0,.int .i64 0,.int .u64 0]) w5.heap.size #[.int .u8 3,.int .u8 2,.int .u8 1,.int .u8 3,.int .u8 0,.int .i64 20,.int .i64 0,.int .i64 0,.int .i64 0,.int .u64 0] 87 from setRow_heap _ _ _ _ _ (0,0) (Blk.new w5 #[.int .u8 0,.int .u8 0,.int .u8 0,.int .u8 0,.int .u8 0,.int .i64 0,.int .i64 0,.int .i64 0,.int .i64 0,.int .u64 0] 87))
 have PN:Hid (w5.heap.size≠g):=Lib.hid (Nat.ne_of_gt (MP.out.lt I_8.out))
 have PZ:Hid (w.heap.size≤w5.heap.size):=Lib.hid B_7.out.size
 generalize (w5.alloc (.cells #[.int .u8 0,.int .u8 0,.int .u8 0,.int .u8 0,.int .u8 0,.int .i64 0,.int .i64 0,.int .i64 0,.int .i64 0,.int .u64 0] 87)).setRow w5.heap.size #[.int .u8 3,.int .u8 2,.int .u8 1,.int .u8 3,.int .u8 0,.int .i64 20,.int .i64 0,.int .i64 0,.int .i64 0,.int .u64 0]=w6 at *
 have K1:Hid (Keep (·=g) w5 w6):=Lib.hid (Keep.of_below ba)
 have B_9:=Lib.hid (B_7.out.trans (ba.mono B_7.out.size))
 have I_10:=Lib.hid (MP.out.below I_8.out ba)
 clear B_7 I_8
 clear ba
 have p0:=P0.out.cell 0; have p1:=P0.out.cell 1; have p2:=P0.out.cell 2; have p3:=P0.out.cell 3; have p4:=P0.out.cell 4; have p5:=P0.out.cell 5; have p6:=P0.out.cell 6; have p7:=P0.out.cell 7; have p8:=P0.out.cell 8; have p9:=P0.out.cell 9; have pl:=P0.out.lt
 simp at p0 p1 p2 p3 p4 p5 p6 p7 p8 p9
 go_wp2_with fail
 have ba:=(Below.refl w6.heap.size w6).alloc (Nat.le_refl _) (.cells #[.int .u8 3,.int .u8 2,.int .u8 1,.int .u8 3,.int .u8 0,.int .i64 20,.int .i64 0,.int .i64 0,.int .i64 0,.int .u64 0,.int .u8 9,.int .u8 1,.int .u8 0,.int .u8 3,.int .u8 0,.int .i64 0,.int .i64 0,.int .i64 0,.int .i64 0,.int .u64 0] 87)
 have S10:=Lib.hid (Blk.new w6 #[.int .u8 3,.int .u8 2,.int .u8 1,.int .u8 3,.int .u8 0,.int .i64 20,.int .i64 0,.int .i64 0,.int .i64 0,.int .u64 0,.int .u8 9,.int .u8 1,.int .u8 0,.int .u8 3,.int .u8 0,.int .i64 0,.int .i64 0,.int .i64 0,.int .i64 0,.int .u64 0] 87)
 have S1N:Hid (w6.heap.size≠g):=Lib.hid (Nat.ne_of_gt (MP.out.lt I_10.out))
 generalize w6.alloc (.cells #[.int .u8 3,.int .u8 2,.int .u8 1,.int .u8 3,.int .u8 0,.int .i64 20,.int .i64 0,.int .i64 0,.int .i64 0,.int .u64 0,.int .u8 9,.int .u8 1,.int .u8 0,.int .u8 3,.int .u8 0,.int .i64 0,.int .i64 0,.int .i64 0,.int .i64 0,.int .u64 0] 87)=w7 at *
 have K2:Hid (Keep (·=g) w6 w7):=Lib.hid (Keep.of_below ba)
 have B_11:=Lib.hid (B_9.out.trans (ba.mono B_9.out.size))
 have I_12:=Lib.hid (MP.out.below I_10.out ba)
 have P_13:=Lib.hid (P0.out.below ba P0.out.lt)
 clear B_9 I_10 P0
 clear ba
 refine (one_any _ _ _ _).mono ?_
 rintro e w8 ⟨rfl,b⟩
 have K3:Hid (Keep (·=g) w7 w8):=Lib.hid (Keep.of_below b)
 have B_14:=Lib.hid (B_11.out.trans (b.mono B_11.out.size))
 have I_15:=Lib.hid (MP.out.below I_12.out b)
 have P_16:=Lib.hid (P_13.out.below b P_13.out.lt)
 have S1_17:=Lib.hid (S10.out.below b S10.out.lt)
 clear B_11 I_12 P_13 S10
 clear b
 have CA:=Lib.hid (MP.out.apply I_15.out I1.out ⟨_,2,2,[⟨3,2,1,3,0,20,0,0,0,0⟩,⟨9,1,0,3,0,0,0,0,0,0⟩]⟩ (stepsIn_blk (xs:=[⟨3,2,1,3,0,20,0,0,0,0⟩,⟨9,1,0,3,0,0,0,0,0,0⟩]) S1_17.out rfl (by intro x hx; simp only [List.mem_cons,List.not_mem_nil,or_false] at hx; rcases hx with rfl | rfl <;> exact stp_fits _ (by decide)) (by decide)) (fun s hs=>OK.out s (by simp only [List.mem_cons,List.not_mem_nil,or_false] at hs; rcases hs with rfl | rfl <;> decide)))
 unfold ApplyPost at CA
 rw [(lv14_B I1.out)] at CA
 go_wp2_with fail
 refine CA.out.mono ?_
 rintro e w9 ⟨v1,rfl,tv,ig,k⟩
 have TN1:Hid (g<w8.heap.size):=Lib.hid (MP.out.lt I_15.out)
 have K4:Hid (Keep (·=g) w8 w9):=Lib.hid (k)
 have B_18:=Lib.hid (B_14.out.trans (k.below B_14.out.size (fun j hj e=>by have:=GB.out; omega)))
 have P_19:=Lib.hid (P_16.out.keep k PN.out)
 clear B_14 I_15 P_16
 have IGa1:=Lib.hid ig
 have TVa1:=Lib.hid tv
 clear ig tv k CA
 go_upto_region 5 with (refine wpList_store_whole rfl 36 (.tmp 4) (.tmp 23) rfl w9.heap.size #[.int .i64 0,.int .i64 0,v1] rfl rfl 36 _ (Blk.new w9 #[.int .i64 0,.int .i64 0,.slice none 0 0] 36).out (by kernel_rfl) rfl (by obtain ⟨_,_,rfl⟩:=TVa1.out.shape; simp [Value.oneCell']) ?_)
 have ba:Below w9.heap.size w9 ((w9.alloc (.cells #[.int .i64 0,.int .i64 0,.slice none 0 0] 36)).setRow w9.heap.size #[.int .i64 0,.int .i64 0,v1]):=below_setRow ((Below.refl w9.heap.size w9).alloc (Nat.le_refl _) (.cells #[.int .i64 0,.int .i64 0,.slice none 0 0] 36)) (Nat.le_refl _) _
 have R10:=Lib.hid (show Blk ((w9.alloc (.cells #[.int .i64 0,.int .i64 0,.slice none 0 0] 36)).setRow w9.heap.size #[.int .i64 0,.int .i64 0,v1]) w9.heap.size #[.int .i64 0,.int .i64 0,v1] 36 from setRow_heap _ _ _ _ _ (0,0) (Blk.new w9 #[.int .i64 0,.int .i64 0,.slice none 0 0] 36))
 have R1N:Hid (w9.heap.size≠g):=Lib.hid (Nat.ne_of_gt (MP.out.lt IGa1.out))
 have R1Z:Hid (w.heap.size≤w9.heap.size):=Lib.hid B_18.out.size
 generalize (w9.alloc (.cells #[.int .i64 0,.int .i64 0,.slice none 0 0] 36)).setRow w9.heap.size #[.int .i64 0,.int .i64 0,v1]=w10 at *
 have K5:Hid (Keep (·=g) w9 w10):=Lib.hid (Keep.of_below ba)
 have B_20:=Lib.hid (B_18.out.trans (ba.mono B_18.out.size))
 have P_21:=Lib.hid (P_19.out.below ba P_19.out.lt)
 have I_22:=Lib.hid (MP.out.below IGa1.out ba)
 clear B_18 P_19 IGa1
 clear ba
 clear p0 p1 p2 p3 p4 p5 p6 p7 p8 p9 pl
 have c_23:=K5.out
 have c_24:=K4.out.trans c_23
 have c_25:=K3.out.trans c_24
 have c_26:=K2.out.trans c_25
 have c_27:=K1.out.trans c_26
 have c_28:=K0.out.trans c_27
 have T0_29:=Lib.hid (TVa0.out.keep c_28 (fun b hb e=>Nat.ne_of_gt (Nat.lt_of_lt_of_le TN0.out (TVa0.out.own hb).1) e))
 have R0_30:=Lib.hid (R00.out.keep c_27 R0N.out)
 have T1_31:=Lib.hid (TVa1.out.keep c_23 (fun b hb e=>Nat.ne_of_gt (Nat.lt_of_lt_of_le TN1.out (TVa1.out.own hb).1) e))
 clear c_28 c_27 c_26 c_25 c_24 c_23
 have p0:=P_21.out.cell 0; have p1:=P_21.out.cell 1; have p2:=P_21.out.cell 2; have p3:=P_21.out.cell 3; have p4:=P_21.out.cell 4; have p5:=P_21.out.cell 5; have pl:=P_21.out.lt
 simp at p0 p1 p2 p3 p4 p5
 have pf:=P_21.out.frozen 5
 go_upto_region 6 with fail
 have kq:Keep (·=w5.heap.size) w10 (w10.setCell ⟨w5.heap.size,5,none⟩ (.int .i64 5)):=Keep.setCell (S:=(·=w5.heap.size)) (Keep.refl _ _) (p:=⟨w5.heap.size,5,none⟩) (.inl rfl) _
 have Ps5:Hid (Blk (w10.setCell ⟨w5.heap.size,5,none⟩ (.int .i64 5)) w5.heap.size #[.int .u8 3,.int .u8 2,.int .u8 1,.int .u8 3,.int .u8 0,.int .i64 5,.int .i64 0,.int .i64 0,.int .i64 0,.int .u64 0] 87):=Lib.hid (P_21.out.set 5 _)
 generalize w10.setCell ⟨w5.heap.size,5,none⟩ (.int .i64 5)=w11 at *
 have B_32:=Lib.hid (B_20.out.trans (kq.below B_20.out.size (fun j hj e=>by have:=PZ.out; omega)))
 have I_33:=Lib.hid (MP.out.rows I_22.out kq (fun b hb=>by subst hb; exact ⟨_,_,P_21.out,.inr (.inr (.inr (.inl rfl)))⟩))
 have T0_34:=Lib.hid (T0_29.out.keep kq (told_ne T0_29.out P_21.out (by decide)))
 have R0_35:=Lib.hid (R0_30.out.keep kq (blk_blk_ne R0_30.out P_21.out (by decide)))
 have T1_36:=Lib.hid (T1_31.out.keep kq (told_ne T1_31.out P_21.out (by decide)))
 have R1_37:=Lib.hid (R10.out.keep kq (blk_blk_ne R10.out P_21.out (by decide)))
 clear B_20 P_21 I_22 T0_29 R0_30 T1_31 R10 p0 p1 p2 p3 p4 p5 pl kq pf
 have p0:=Ps5.out.cell 0; have p1:=Ps5.out.cell 1; have p2:=Ps5.out.cell 2; have p3:=Ps5.out.cell 3; have p4:=Ps5.out.cell 4; have p5:=Ps5.out.cell 5; have p6:=Ps5.out.cell 6; have p7:=Ps5.out.cell 7; have p8:=Ps5.out.cell 8; have p9:=Ps5.out.cell 9; have pl:=Ps5.out.lt
 simp at p0 p1 p2 p3 p4 p5 p6 p7 p8 p9
 have M0N2:Hid (w5.heap.size≠w11.heap.size):=Lib.hid (Nat.ne_of_lt Ps5.out.lt)
 go_upto_region 7 with (refine wpList_store_whole rfl 87 (.tmp 5) (.tmp 25) rfl w11.heap.size #[.int .u8 3,.int .u8 2,.int .u8 1,.int .u8 3,.int .u8 0,.int .i64 5,.int .i64 0,.int .i64 0,.int .i64 0,.int .u64 0] rfl rfl 87 _ (Blk.new w11 #[.int .u8 0,.int .u8 0,.int .u8 0,.int .u8 0,.int .u8 0,.int .i64 0,.int .i64 0,.int .i64 0,.int .i64 0,.int .u64 0] 87).out (by kernel_rfl) rfl (by simp [Value.oneCell']) ?_)
 have ba:Below w11.heap.size w11 ((w11.alloc (.cells #[.int .u8 0,.int .u8 0,.int .u8 0,.int .u8 0,.int .u8 0,.int .i64 0,.int .i64 0,.int .i64 0,.int .i64 0,.int .u64 0] 87)).setRow w11.heap.size #[.int .u8 3,.int .u8 2,.int .u8 1,.int .u8 3,.int .u8 0,.int .i64 5,.int .i64 0,.int .i64 0,.int .i64 0,.int .u64 0]):=below_setRow ((Below.refl w11.heap.size w11).alloc (Nat.le_refl _) (.cells #[.int .u8 0,.int .u8 0,.int .u8 0,.int .u8 0,.int .u8 0,.int .i64 0,.int .i64 0,.int .i64 0,.int .i64 0,.int .u64 0] 87)) (Nat.le_refl _) _
 have M0:=Lib.hid (show Blk ((w11.alloc (.cells #[.int .u8 0,.int .u8 0,.int .u8 0,.int .u8 0,.int .u8 0,.int .i64 0,.int .i64 0,.int .i64 0,.int .i64 0,.int .u64 0] 87)).setRow w11.heap.size #[.int .u8 3,.int .u8 2,.int .u8 1,.int .u8 3,.int .u8 0,.int .i64 5,.int .i64 0,.int .i64 0,.int .i64 0,.int .u64 0]) w11.heap.size #[.int .u8 3,.int .u8 2,.int .u8 1,.int .u8 3,.int .u8 0,.int .i64 5,.int .i64 0,.int .i64 0,.int .i64 0,.int .u64 0] 87 from setRow_heap _ _ _ _ _ (0,0) (Blk.new w11 #[.int .u8 0,.int .u8 0,.int .u8 0,.int .u8 0,.int .u8 0,.int .i64 0,.int .i64 0,.int .i64 0,.int .i64 0,.int .u64 0] 87))
 have MN:Hid (w11.heap.size≠g):=Lib.hid (Nat.ne_of_gt (MP.out.lt I_33.out))
 have MZ:Hid (w.heap.size≤w11.heap.size):=Lib.hid B_32.out.size
 generalize (w11.alloc (.cells #[.int .u8 0,.int .u8 0,.int .u8 0,.int .u8 0,.int .u8 0,.int .i64 0,.int .i64 0,.int .i64 0,.int .i64 0,.int .u64 0] 87)).setRow w11.heap.size #[.int .u8 3,.int .u8 2,.int .u8 1,.int .u8 3,.int .u8 0,.int .i64 5,.int .i64 0,.int .i64 0,.int .i64 0,.int .u64 0]=w12 at *
 have K6:Hid (Keep (·=g) w11 w12):=Lib.hid (Keep.of_below ba)
 have B_38:=Lib.hid (B_32.out.trans (ba.mono B_32.out.size))
 have P_39:=Lib.hid (Ps5.out.below ba Ps5.out.lt)
 have I_40:=Lib.hid (MP.out.below I_33.out ba)
 clear B_32 Ps5 I_33
 clear ba
 clear p0 p1 p2 p3 p4 p5 p6 p7 p8 p9 pl
 have c_41:=K6.out
 have T0_42:=Lib.hid (T0_34.out.keep c_41 (fun b hb e=>Nat.ne_of_gt (Nat.lt_of_lt_of_le TN0.out (T0_34.out.own hb).1) e))
 have R0_43:=Lib.hid (R0_35.out.keep c_41 R0N.out)
 have T1_44:=Lib.hid (T1_36.out.keep c_41 (fun b hb e=>Nat.ne_of_gt (Nat.lt_of_lt_of_le TN1.out (T1_36.out.own hb).1) e))
 have R1_45:=Lib.hid (R1_37.out.keep c_41 R1N.out)
 clear c_41
 have p0:=M0.out.cell 0; have p1:=M0.out.cell 1; have p2:=M0.out.cell 2; have p3:=M0.out.cell 3; have p4:=M0.out.cell 4; have p5:=M0.out.cell 5; have pl:=M0.out.lt
 simp at p0 p1 p2 p3 p4 p5
 have pf:=M0.out.frozen 5
 go_upto_region 8 with fail
 have kq:Keep (·=w11.heap.size) w12 (w12.setCell ⟨w11.heap.size,5,none⟩ (.int .i64 26)):=Keep.setCell (S:=(·=w11.heap.size)) (Keep.refl _ _) (p:=⟨w11.heap.size,5,none⟩) (.inl rfl) _
 have Ms26:Hid (Blk (w12.setCell ⟨w11.heap.size,5,none⟩ (.int .i64 26)) w11.heap.size #[.int .u8 3,.int .u8 2,.int .u8 1,.int .u8 3,.int .u8 0,.int .i64 26,.int .i64 0,.int .i64 0,.int .i64 0,.int .u64 0] 87):=Lib.hid (M0.out.set 5 _)
 generalize w12.setCell ⟨w11.heap.size,5,none⟩ (.int .i64 26)=w13 at *
 have B_46:=Lib.hid (B_38.out.trans (kq.below B_38.out.size (fun j hj e=>by have:=MZ.out; omega)))
 have P_47:=Lib.hid (P_39.out.keep kq (fun e=>by have:=M0N2.out; omega))
 have I_48:=Lib.hid (MP.out.rows I_40.out kq (fun b hb=>by subst hb; exact ⟨_,_,M0.out,.inr (.inr (.inr (.inl rfl)))⟩))
 have T0_49:=Lib.hid (T0_42.out.keep kq (told_ne T0_42.out M0.out (by decide)))
 have R0_50:=Lib.hid (R0_43.out.keep kq (blk_blk_ne R0_43.out M0.out (by decide)))
 have T1_51:=Lib.hid (T1_44.out.keep kq (told_ne T1_44.out M0.out (by decide)))
 have R1_52:=Lib.hid (R1_45.out.keep kq (blk_blk_ne R1_45.out M0.out (by decide)))
 clear B_38 P_39 I_40 M0 T0_42 R0_43 T1_44 R1_45 p0 p1 p2 p3 p4 p5 pl kq pf
 have p0:=P_47.out.cell 0; have p1:=P_47.out.cell 1; have p2:=P_47.out.cell 2; have p3:=P_47.out.cell 3; have p4:=P_47.out.cell 4; have p5:=P_47.out.cell 5; have p6:=P_47.out.cell 6; have p7:=P_47.out.cell 7; have p8:=P_47.out.cell 8; have p9:=P_47.out.cell 9; have pl:=P_47.out.lt
 simp at p0 p1 p2 p3 p4 p5 p6 p7 p8 p9
 have q0:=Ms26.out.cell 0; have q1:=Ms26.out.cell 1; have q2:=Ms26.out.cell 2; have q3:=Ms26.out.cell 3; have q4:=Ms26.out.cell 4; have q5:=Ms26.out.cell 5; have q6:=Ms26.out.cell 6; have q7:=Ms26.out.cell 7; have q8:=Ms26.out.cell 8; have q9:=Ms26.out.cell 9; have ql:=Ms26.out.lt
 simp at q0 q1 q2 q3 q4 q5 q6 q7 q8 q9
 go_wp2_with fail
 have ba:=(Below.refl w13.heap.size w13).alloc (Nat.le_refl _) (.cells #[.int .u8 3,.int .u8 2,.int .u8 1,.int .u8 3,.int .u8 0,.int .i64 5,.int .i64 0,.int .i64 0,.int .i64 0,.int .u64 0,.int .u8 3,.int .u8 2,.int .u8 1,.int .u8 3,.int .u8 0,.int .i64 26,.int .i64 0,.int .i64 0,.int .i64 0,.int .u64 0] 87)
 have S20:=Lib.hid (Blk.new w13 #[.int .u8 3,.int .u8 2,.int .u8 1,.int .u8 3,.int .u8 0,.int .i64 5,.int .i64 0,.int .i64 0,.int .i64 0,.int .u64 0,.int .u8 3,.int .u8 2,.int .u8 1,.int .u8 3,.int .u8 0,.int .i64 26,.int .i64 0,.int .i64 0,.int .i64 0,.int .u64 0] 87)
 have S2N:Hid (w13.heap.size≠g):=Lib.hid (Nat.ne_of_gt (MP.out.lt I_48.out))
 generalize w13.alloc (.cells #[.int .u8 3,.int .u8 2,.int .u8 1,.int .u8 3,.int .u8 0,.int .i64 5,.int .i64 0,.int .i64 0,.int .i64 0,.int .u64 0,.int .u8 3,.int .u8 2,.int .u8 1,.int .u8 3,.int .u8 0,.int .i64 26,.int .i64 0,.int .i64 0,.int .i64 0,.int .u64 0] 87)=w14 at *
 have K7:Hid (Keep (·=g) w13 w14):=Lib.hid (Keep.of_below ba)
 have B_53:=Lib.hid (B_46.out.trans (ba.mono B_46.out.size))
 have P_54:=Lib.hid (P_47.out.below ba P_47.out.lt)
 have I_55:=Lib.hid (MP.out.below I_48.out ba)
 have M_56:=Lib.hid (Ms26.out.below ba Ms26.out.lt)
 clear B_46 P_47 I_48 Ms26
 clear ba
 refine (one_any _ _ _ _).mono ?_
 rintro e w15 ⟨rfl,b⟩
 have K8:Hid (Keep (·=g) w14 w15):=Lib.hid (Keep.of_below b)
 have B_57:=Lib.hid (B_53.out.trans (b.mono B_53.out.size))
 have P_58:=Lib.hid (P_54.out.below b P_54.out.lt)
 have I_59:=Lib.hid (MP.out.below I_55.out b)
 have M_60:=Lib.hid (M_56.out.below b M_56.out.lt)
 have S2_61:=Lib.hid (S20.out.below b S20.out.lt)
 clear B_53 P_54 I_55 M_56 S20
 clear b
 have CA:=Lib.hid (MP.out.apply I_59.out I2.out ⟨_,2,2,[⟨3,2,1,3,0,5,0,0,0,0⟩,⟨3,2,1,3,0,26,0,0,0,0⟩]⟩ (stepsIn_blk (xs:=[⟨3,2,1,3,0,5,0,0,0,0⟩,⟨3,2,1,3,0,26,0,0,0,0⟩]) S2_61.out rfl (by intro x hx; simp only [List.mem_cons,List.not_mem_nil,or_false] at hx; rcases hx with rfl | rfl <;> exact stp_fits _ (by decide)) (by decide)) (fun s hs=>OK.out s (by simp only [List.mem_cons,List.not_mem_nil,or_false] at hs; rcases hs with rfl | rfl <;> decide)))
 unfold ApplyPost at CA
 rw [(lv14_C I2.out I3.out)] at CA
 go_wp2_with fail
 refine CA.out.mono ?_
 rintro e w16 ⟨v2,rfl,tv,ig,k⟩
 have TN2:Hid (g<w15.heap.size):=Lib.hid (MP.out.lt I_59.out)
 have K9:Hid (Keep (·=g) w15 w16):=Lib.hid (k)
 have B_62:=Lib.hid (B_57.out.trans (k.below B_57.out.size (fun j hj e=>by have:=GB.out; omega)))
 have P_63:=Lib.hid (P_58.out.keep k PN.out)
 have M_64:=Lib.hid (M_60.out.keep k MN.out)
 clear B_57 P_58 I_59 M_60
 have IGa2:=Lib.hid ig
 have TVa2:=Lib.hid tv
 clear ig tv k CA
 go_upto_region 9 with (refine wpList_store_whole rfl 36 (.tmp 6) (.tmp 32) rfl w16.heap.size #[.int .i64 11,.int .i64 1,v2] rfl rfl 36 _ (Blk.new w16 #[.int .i64 0,.int .i64 0,.slice none 0 0] 36).out (by kernel_rfl) rfl (by obtain ⟨_,_,rfl⟩:=TVa2.out.shape; simp [Value.oneCell']) ?_)
 have ba:Below w16.heap.size w16 ((w16.alloc (.cells #[.int .i64 0,.int .i64 0,.slice none 0 0] 36)).setRow w16.heap.size #[.int .i64 11,.int .i64 1,v2]):=below_setRow ((Below.refl w16.heap.size w16).alloc (Nat.le_refl _) (.cells #[.int .i64 0,.int .i64 0,.slice none 0 0] 36)) (Nat.le_refl _) _
 have R20:=Lib.hid (show Blk ((w16.alloc (.cells #[.int .i64 0,.int .i64 0,.slice none 0 0] 36)).setRow w16.heap.size #[.int .i64 11,.int .i64 1,v2]) w16.heap.size #[.int .i64 11,.int .i64 1,v2] 36 from setRow_heap _ _ _ _ _ (0,0) (Blk.new w16 #[.int .i64 0,.int .i64 0,.slice none 0 0] 36))
 have R2N:Hid (w16.heap.size≠g):=Lib.hid (Nat.ne_of_gt (MP.out.lt IGa2.out))
 have R2Z:Hid (w.heap.size≤w16.heap.size):=Lib.hid B_62.out.size
 generalize (w16.alloc (.cells #[.int .i64 0,.int .i64 0,.slice none 0 0] 36)).setRow w16.heap.size #[.int .i64 11,.int .i64 1,v2]=w17 at *
 have K10:Hid (Keep (·=g) w16 w17):=Lib.hid (Keep.of_below ba)
 have B_65:=Lib.hid (B_62.out.trans (ba.mono B_62.out.size))
 have P_66:=Lib.hid (P_63.out.below ba P_63.out.lt)
 have M_67:=Lib.hid (M_64.out.below ba M_64.out.lt)
 have I_68:=Lib.hid (MP.out.below IGa2.out ba)
 clear B_62 P_63 M_64 IGa2
 clear ba
 clear p0 p1 p2 p3 p4 p5 p6 p7 p8 p9 pl q0 q1 q2 q3 q4 q5 q6 q7 q8 q9 ql
 go_wp2_with fail
 have ba:=(Below.refl w17.heap.size w17).alloc (Nat.le_refl _) (.cells #[.int .u8 8,.int .u8 1,.int .u8 2,.int .u8 3,.int .u8 0,.int .i64 0,.int .i64 0,.int .i64 0,.int .i64 0,.int .u64 0] 87)
 have S30:=Lib.hid (Blk.new w17 #[.int .u8 8,.int .u8 1,.int .u8 2,.int .u8 3,.int .u8 0,.int .i64 0,.int .i64 0,.int .i64 0,.int .i64 0,.int .u64 0] 87)
 have S3N:Hid (w17.heap.size≠g):=Lib.hid (Nat.ne_of_gt (MP.out.lt I_68.out))
 generalize w17.alloc (.cells #[.int .u8 8,.int .u8 1,.int .u8 2,.int .u8 3,.int .u8 0,.int .i64 0,.int .i64 0,.int .i64 0,.int .i64 0,.int .u64 0] 87)=w18 at *
 have K11:Hid (Keep (·=g) w17 w18):=Lib.hid (Keep.of_below ba)
 have B_69:=Lib.hid (B_65.out.trans (ba.mono B_65.out.size))
 have I_70:=Lib.hid (MP.out.below I_68.out ba)
 clear B_65 I_68
 clear ba
 refine (one_any _ _ _ _).mono ?_
 rintro e w19 ⟨rfl,b⟩
 have K12:Hid (Keep (·=g) w18 w19):=Lib.hid (Keep.of_below b)
 have B_71:=Lib.hid (B_69.out.trans (b.mono B_69.out.size))
 have I_72:=Lib.hid (MP.out.below I_70.out b)
 have S3_73:=Lib.hid (S30.out.below b S30.out.lt)
 clear B_69 I_70 S30
 clear b
 have CA:=Lib.hid (MP.out.apply I_72.out I2.out ⟨_,1,1,[⟨8,1,2,3,0,0,0,0,0,0⟩]⟩ (stepsIn_blk (xs:=[⟨8,1,2,3,0,0,0,0,0,0⟩]) S3_73.out rfl (by intro x hx; simp only [List.mem_cons,List.not_mem_nil,or_false] at hx; rcases hx with rfl <;> exact stp_fits _ (by decide)) (by decide)) (fun s hs=>OK.out s (by simp only [List.mem_cons,List.not_mem_nil,or_false] at hs; rcases hs with rfl <;> decide)))
 unfold ApplyPost at CA
 rw [lv14_D] at CA
 go_wp2_with fail
 refine CA.out.mono ?_
 rintro e w20 ⟨v3,rfl,tv,ig,k⟩
 have TN3:Hid (g<w19.heap.size):=Lib.hid (MP.out.lt I_72.out)
 have K13:Hid (Keep (·=g) w19 w20):=Lib.hid (k)
 have B_74:=Lib.hid (B_71.out.trans (k.below B_71.out.size (fun j hj e=>by have:=GB.out; omega)))
 clear B_71 I_72
 have IGa3:=Lib.hid ig
 have TVa3:=Lib.hid tv
 clear ig tv k CA
 go_upto_region 10 with (refine wpList_store_whole rfl 36 (.tmp 7) (.tmp 37) rfl w20.heap.size #[.int .i64 0,.int .i64 0,v3] rfl rfl 36 _ (Blk.new w20 #[.int .i64 0,.int .i64 0,.slice none 0 0] 36).out (by kernel_rfl) rfl (by obtain ⟨_,_,rfl⟩:=TVa3.out.shape; simp [Value.oneCell']) ?_)
 have ba:Below w20.heap.size w20 ((w20.alloc (.cells #[.int .i64 0,.int .i64 0,.slice none 0 0] 36)).setRow w20.heap.size #[.int .i64 0,.int .i64 0,v3]):=below_setRow ((Below.refl w20.heap.size w20).alloc (Nat.le_refl _) (.cells #[.int .i64 0,.int .i64 0,.slice none 0 0] 36)) (Nat.le_refl _) _
 have R30:=Lib.hid (show Blk ((w20.alloc (.cells #[.int .i64 0,.int .i64 0,.slice none 0 0] 36)).setRow w20.heap.size #[.int .i64 0,.int .i64 0,v3]) w20.heap.size #[.int .i64 0,.int .i64 0,v3] 36 from setRow_heap _ _ _ _ _ (0,0) (Blk.new w20 #[.int .i64 0,.int .i64 0,.slice none 0 0] 36))
 have R3N:Hid (w20.heap.size≠g):=Lib.hid (Nat.ne_of_gt (MP.out.lt IGa3.out))
 have R3Z:Hid (w.heap.size≤w20.heap.size):=Lib.hid B_74.out.size
 generalize (w20.alloc (.cells #[.int .i64 0,.int .i64 0,.slice none 0 0] 36)).setRow w20.heap.size #[.int .i64 0,.int .i64 0,v3]=w21 at *
 have K14:Hid (Keep (·=g) w20 w21):=Lib.hid (Keep.of_below ba)
 have B_75:=Lib.hid (B_74.out.trans (ba.mono B_74.out.size))
 have I_76:=Lib.hid (MP.out.below IGa3.out ba)
 clear B_74 IGa3
 clear ba
 have CA:=Lib.hid (MP.out.apply I_76.out I2.out ⟨none,0,0,[]⟩ ⟨fun _=>rfl,rfl,(fun x hx=>by cases hx),Nat.le_refl _,by decide,fun h=>absurd h (by decide)⟩ (fun s hs=>by cases hs))
 unfold ApplyPost at CA
 rw [lv14_E] at CA
 go_wp2_with fail
 refine CA.out.mono ?_
 rintro e w22 ⟨v4,rfl,tv,ig,k⟩
 have TN4:Hid (g<w21.heap.size):=Lib.hid (MP.out.lt I_76.out)
 have K15:Hid (Keep (·=g) w21 w22):=Lib.hid (k)
 have B_77:=Lib.hid (B_75.out.trans (k.below B_75.out.size (fun j hj e=>by have:=GB.out; omega)))
 clear B_75 I_76
 have IGa4:=Lib.hid ig
 have TVa4:=Lib.hid tv
 clear ig tv k CA
 go_upto_region 11 with (refine wpList_store_whole rfl 36 (.tmp 8) (.tmp 40) rfl w22.heap.size #[.int .i64 3,.int .i64 0,v4] rfl rfl 36 _ (Blk.new w22 #[.int .i64 0,.int .i64 0,.slice none 0 0] 36).out (by kernel_rfl) rfl (by obtain ⟨_,_,rfl⟩:=TVa4.out.shape; simp [Value.oneCell']) ?_)
 have ba:Below w22.heap.size w22 ((w22.alloc (.cells #[.int .i64 0,.int .i64 0,.slice none 0 0] 36)).setRow w22.heap.size #[.int .i64 3,.int .i64 0,v4]):=below_setRow ((Below.refl w22.heap.size w22).alloc (Nat.le_refl _) (.cells #[.int .i64 0,.int .i64 0,.slice none 0 0] 36)) (Nat.le_refl _) _
 have R40:=Lib.hid (show Blk ((w22.alloc (.cells #[.int .i64 0,.int .i64 0,.slice none 0 0] 36)).setRow w22.heap.size #[.int .i64 3,.int .i64 0,v4]) w22.heap.size #[.int .i64 3,.int .i64 0,v4] 36 from setRow_heap _ _ _ _ _ (0,0) (Blk.new w22 #[.int .i64 0,.int .i64 0,.slice none 0 0] 36))
 have R4N:Hid (w22.heap.size≠g):=Lib.hid (Nat.ne_of_gt (MP.out.lt IGa4.out))
 have R4Z:Hid (w.heap.size≤w22.heap.size):=Lib.hid B_77.out.size
 generalize (w22.alloc (.cells #[.int .i64 0,.int .i64 0,.slice none 0 0] 36)).setRow w22.heap.size #[.int .i64 3,.int .i64 0,v4]=w23 at *
 have K16:Hid (Keep (·=g) w22 w23):=Lib.hid (Keep.of_below ba)
 have B_78:=Lib.hid (B_77.out.trans (ba.mono B_77.out.size))
 have I_79:=Lib.hid (MP.out.below IGa4.out ba)
 clear B_77 IGa4
 clear ba
 have c_80:=K16.out
 have c_81:=K15.out.trans c_80
 have c_82:=K14.out.trans c_81
 have c_83:=K13.out.trans c_82
 have c_84:=K12.out.trans c_83
 have c_85:=K11.out.trans c_84
 have c_86:=K10.out.trans c_85
 have c_87:=K9.out.trans c_86
 have c_88:=K8.out.trans c_87
 have c_89:=K7.out.trans c_88
 have T0_90:=Lib.hid (T0_49.out.keep c_89 (fun b hb e=>Nat.ne_of_gt (Nat.lt_of_lt_of_le TN0.out (T0_49.out.own hb).1) e))
 have R0_91:=Lib.hid (R0_50.out.keep c_89 R0N.out)
 have T1_92:=Lib.hid (T1_51.out.keep c_89 (fun b hb e=>Nat.ne_of_gt (Nat.lt_of_lt_of_le TN1.out (T1_51.out.own hb).1) e))
 have R1_93:=Lib.hid (R1_52.out.keep c_89 R1N.out)
 have T2_94:=Lib.hid (TVa2.out.keep c_86 (fun b hb e=>Nat.ne_of_gt (Nat.lt_of_lt_of_le TN2.out (TVa2.out.own hb).1) e))
 have R2_95:=Lib.hid (R20.out.keep c_85 R2N.out)
 have T3_96:=Lib.hid (TVa3.out.keep c_82 (fun b hb e=>Nat.ne_of_gt (Nat.lt_of_lt_of_le TN3.out (TVa3.out.own hb).1) e))
 have R3_97:=Lib.hid (R30.out.keep c_81 R3N.out)
 have T4_98:=Lib.hid (TVa4.out.keep c_80 (fun b hb e=>Nat.ne_of_gt (Nat.lt_of_lt_of_le TN4.out (TVa4.out.own hb).1) e))
 clear c_89 c_88 c_87 c_86 c_85 c_84 c_83 c_82 c_81 c_80
 have EE:=Lib.hid (Below.refl w23.heap.size w23)
 have rk:=R0_91.out.below EE.out R0_91.out.lt
 have r0:=rk.cell 0; have r1:=rk.cell 1; have r2:=rk.cell 2; have rl:=rk.lt
 simp at r0 r1 r2
 clear rk
 go_wp2_with fail
 have ba:=(Below.refl w23.heap.size w23).alloc (Nat.le_refl _) (.cells #[.int .i64 0,.int .i64 0,.int .i64 0,.int .i64 0,.int .i64 0,.int .i64 0] 93)
 have Q0:=Lib.hid (Blk.new w23 #[.int .i64 0,.int .i64 0,.int .i64 0,.int .i64 0,.int .i64 0,.int .i64 0] 93)
 generalize w23.alloc (.cells #[.int .i64 0,.int .i64 0,.int .i64 0,.int .i64 0,.int .i64 0,.int .i64 0] 93)=w24 at *
 have B_99:=Lib.hid (B_78.out.trans (ba.mono B_78.out.size))
 have E_100:=Lib.hid (EE.out.trans (ba.mono EE.out.size))
 clear B_78 EE
 clear ba
 have CS:=Lib.hid (SameReply_any (e1:=0) (a1:=0) (e2:=0) (a2:=0) ((T0_90.out.below E_100.out).reads (by decide)) (gotsReads_blk (xs:=[⟨0,0⟩,⟨0,0⟩,⟨0,0⟩]) Q0.out rfl (by decide)))
 refine CS.out.mono ?_
 rintro e w25 ⟨rfl,b⟩
 rw [decide_eq_true (by simp)]
 have B_101:=Lib.hid (B_99.out.trans (b.mono B_99.out.size))
 have E_102:=Lib.hid (E_100.out.trans (b.mono E_100.out.size))
 clear B_99 E_100
 clear b CS r0 r1 r2 rl
 have rk:=R1_93.out.below E_102.out R1_93.out.lt
 have r0:=rk.cell 0; have r1:=rk.cell 1; have r2:=rk.cell 2; have rl:=rk.lt
 simp at r0 r1 r2
 clear rk
 go_wp2_with fail
 have ba:=(Below.refl w25.heap.size w25).alloc (Nat.le_refl _) (.cells #[.int .i64 1,.int .i64 0,.int .i64 20,.int .i64 0] 93)
 have Q0:=Lib.hid (Blk.new w25 #[.int .i64 1,.int .i64 0,.int .i64 20,.int .i64 0] 93)
 generalize w25.alloc (.cells #[.int .i64 1,.int .i64 0,.int .i64 20,.int .i64 0] 93)=w26 at *
 have B_103:=Lib.hid (B_101.out.trans (ba.mono B_101.out.size))
 have E_104:=Lib.hid (E_102.out.trans (ba.mono E_102.out.size))
 clear B_101 E_102
 clear ba
 have CS:=Lib.hid (SameReply_any (e1:=0) (a1:=0) (e2:=0) (a2:=0) ((T1_92.out.below E_104.out).reads (by decide)) (gotsReads_blk (xs:=[⟨1,0⟩,⟨20,0⟩]) Q0.out rfl (by decide)))
 refine CS.out.mono ?_
 rintro e w27 ⟨rfl,b⟩
 rw [decide_eq_true (by simp)]
 have B_105:=Lib.hid (B_103.out.trans (b.mono B_103.out.size))
 have E_106:=Lib.hid (E_104.out.trans (b.mono E_104.out.size))
 clear B_103 E_104
 clear b CS r0 r1 r2 rl
 have rk:=R2_95.out.below E_106.out R2_95.out.lt
 have r0:=rk.cell 0; have r1:=rk.cell 1; have r2:=rk.cell 2; have rl:=rk.lt
 simp at r0 r1 r2
 clear rk
 have CS:=Lib.hid (SameReply_any (e1:=11) (a1:=1) (e2:=11) (a2:=1) (lb:=[]) ((T2_94.out.below E_106.out).reads (by decide)) (reads_nil _ 2))
 go_wp2_with fail
 refine CS.out.mono ?_
 rintro e w28 ⟨rfl,b⟩
 rw [decide_eq_true (by simp)]
 have B_107:=Lib.hid (B_105.out.trans (b.mono B_105.out.size))
 have E_108:=Lib.hid (E_106.out.trans (b.mono E_106.out.size))
 clear B_105 E_106
 clear b CS r0 r1 r2 rl
 have rk:=R3_97.out.below E_108.out R3_97.out.lt
 have r0:=rk.cell 0; have r1:=rk.cell 1; have r2:=rk.cell 2; have rl:=rk.lt
 simp at r0 r1 r2
 clear rk
 go_wp2_with fail
 have ba:=(Below.refl w28.heap.size w28).alloc (Nat.le_refl _) (.cells #[.int .i64 20,.int .i64 50] 93)
 have Q0:=Lib.hid (Blk.new w28 #[.int .i64 20,.int .i64 50] 93)
 generalize w28.alloc (.cells #[.int .i64 20,.int .i64 50] 93)=w29 at *
 have B_109:=Lib.hid (B_107.out.trans (ba.mono B_107.out.size))
 have E_110:=Lib.hid (E_108.out.trans (ba.mono E_108.out.size))
 clear B_107 E_108
 clear ba
 have CS:=Lib.hid (SameReply_any (e1:=0) (a1:=0) (e2:=0) (a2:=0) ((T3_96.out.below E_110.out).reads (by decide)) (gotsReads_blk (xs:=[⟨20,50⟩]) Q0.out rfl (by decide)))
 refine CS.out.mono ?_
 rintro e w30 ⟨rfl,b⟩
 rw [decide_eq_true (by simp)]
 have B_111:=Lib.hid (B_109.out.trans (b.mono B_109.out.size))
 have E_112:=Lib.hid (E_110.out.trans (b.mono E_110.out.size))
 clear B_109 E_110
 clear b CS r0 r1 r2 rl
 have rk:=R40.out.below E_112.out R40.out.lt
 have r0:=rk.cell 0; have r1:=rk.cell 1; have r2:=rk.cell 2; have rl:=rk.lt
 simp at r0 r1 r2
 clear rk
 have CS:=Lib.hid (SameReply_any (e1:=3) (a1:=0) (e2:=3) (a2:=0) (lb:=[]) ((T4_98.out.below E_112.out).reads (by decide)) (reads_nil _ 2))
 go_wp2_with fail
 refine CS.out.mono ?_
 rintro e w31 ⟨rfl,b⟩
 rw [decide_eq_true (by simp)]
 have B_113:=Lib.hid (B_111.out.trans (b.mono B_111.out.size))
 have E_114:=Lib.hid (E_112.out.trans (b.mono E_112.out.size))
 clear B_111 E_112
 clear b CS r0 r1 r2 rl
 go_wp2_with fail
 go_ret
 exact ⟨rfl,B_113.out⟩
end Go.Proofs.YtngnfdnfpiiclaaGreat
namespace Go.Proofs.YtngnfdnfpiiclaaGreat
open Go.RowKit
theorem machFew:MachProg (fun s=>s.kd=1∨s.kd=2∨s.kd=3∨s.kd=8∨s.kd=9) (MIs (fun _=>True)):=machProg_of (@hcopy_any) (fun s h=>kd_few routeProg s h)
theorem lives14_few:Lives14:=lives14_any (fun _ h=>h) machFew
end Go.Proofs.YtngnfdnfpiiclaaGreat
