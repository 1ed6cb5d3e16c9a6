/-
  Pieces of one proof, without what is not wanted: Lives13, Sound, NettingsRing, BelowD, NEnds.
-/
import Derived.Test.YtlbjjkbppbmihaaR01
import Derived.Test.YtlbjjkbppbmihaaR05
import Derived.Test.YtlbjjkbppbmihaaR07
import Derived.Test.YtlbjjkbppbmihaaR10
import Derived.Test.YtlbjjkbppbmihaaR11
import Derived.Test.YtlbjjkbppbmihaaR12
import Derived.Test.YtlbjjkbppbmihaaR13
import Derived.BigQuiet
import Derived.StillTailTactics
import Derived.Sort.Grow
import Derived.Laws.EntriesVeiled
import Derived.Shelf.Abstract
set_option linter.unusedSimpArgs false
set_option linter.unusedVariables false
namespace Go.Proofs.Ytlbjjkbppbmihaa
open Go.RowKit
def p13:List Int:=[1,2,3]
def l13:List Ln:=[⟨1,3,6,9,4⟩,⟨2,1,6,9,5⟩,⟨3,2,6,9,3⟩]
def L13:Nat→Int:=nextD lvD (amD lvD)
def m13:List Ln:=netL l13 6 L13
theorem d13:debtsL l13 6=lvD:=by decide +kernel
theorem t13:totL l13 6=12∧sumN L13 3=3:=by decide +kernel
theorem lv13_least:IsLeast (debtsL l13 6) L13 1:=by rw [d13]; exact lvD_least.1
theorem lv13_ok:RdOk (debtsL l13 6) L13:=lv13_least.inv.ok
theorem e13 (h:LInv p13 l13):debtsL m13 6=lvL:=by
 have:=net_debts h 6 lv13_ok
 rw [d13] at this
 exact this.trans lvD_least.2
theorem u13 (h:LInv p13 l13):totL m13 6=3:=by
 have:=net_tot h 6 lv13_ok
 rw [d13] at this
 exact this.trans t13.2
theorem lv13_a:NetAns l13 6 0 0 0 13 l13:=.inr ⟨by decide,by decide,L13,1,lv13_least,.inr ⟨by decide,rfl,rfl,rfl,rfl⟩⟩
theorem lv13_b (h:LInv p13 l13):NetAns l13 6 1 9 1 0 m13:=.inr ⟨by decide,by decide,L13,1,lv13_least,.inl ⟨by decide,by
 show 9=totL l13 6 - totL m13 6
 rw [u13 h,t13.1]
 rfl,rfl,rfl,rfl⟩⟩
theorem lv13_c (h:LInv p13 l13):∃ ms,NetAns m13 6 0 0 0 0 ms:=by
 have hm:LInv p13 m13:=netL_inv h 6 L13
 have hL:IsLeast (debtsL m13 6) (amD (debtsL m13 6)) 0:=by
  rw [show debtsL m13 6=leftL (debtsL l13 6) L13 from net_debts h 6 lv13_ok]
  exact left_done (debtsL_may h 6) lv13_least
 refine ⟨_,.inr ⟨by decide,by decide,_,0,hL,.inl ⟨by decide,?_,rfl,rfl,rfl⟩⟩⟩
 have h1:=net_tot hm 6 hL.inv.ok
 have h2:=(debts_tot hm 6).1
 omega
def Lives13:Prop:=∀ w,Calls Try.prog 7 #[] w fun e w'=>e=.returned (.bool true)∧Below w.heap.size w w'
set_option maxHeartbeats 16000000 in
set_option maxRecDepth 100000 in
theorem lives13_any (HD:DebtsProg) (HN:NetProg):Lives13:=fun w=>by
 have HDo:=Lib.hid HD
 have HNo:=Lib.hid HN
 clear HD HN
 go_enter Try.func7,Try.ntmps7
 go_wp2_with fail
 refine (new_any w).mono ?_
 rintro e w0 ⟨G,M,rfl,h0,hG,hM,hb0⟩
 have H0:=Lib.hid h0
 have B0:=Lib.hid hb0
 have I0:=Lib.hid LInv.nil
 clear h0 hb0
 have c1:=Lib.hid (open_any H0.out I0.out.bd 1)
 rw [show openE [] 1=0 by decide,show openP [] 1=[1] by decide] at c1
 have I1:Hid (LInv [1] []):=Lib.hid (by have:=LInv.open I0.out 1; rwa [show openP [] 1=[1] by decide] at this)
 go_wp2_with fail
 refine c1.out.mono ?_
 rintro e w1 ⟨rfl,h1,k1⟩
 have H1:=Lib.hid h1
 have B1:=Lib.hid (B0.out.trans (k1.below B0.out.size (fun b hb e=>by omega)))
 clear h1 k1 c1 H0 B0 I0
 have c2:=Lib.hid (open_any H1.out I1.out.bd 2)
 rw [show openE [1] 2=0 by decide,show openP [1] 2=[1,2] by decide] at c2
 have I2:Hid (LInv [1,2] []):=Lib.hid (by have:=LInv.open I1.out 2; rwa [show openP [1] 2=[1,2] by decide] at this)
 go_wp2_with fail
 refine c2.out.mono ?_
 rintro e w2 ⟨rfl,h2,k2⟩
 have H2:=Lib.hid h2
 have B2:=Lib.hid (B1.out.trans (k2.below B1.out.size (fun b hb e=>by omega)))
 clear h2 k2 c2 H1 B1 I1
 have c3:=Lib.hid (open_any H2.out I2.out.bd 3)
 rw [show openE [1,2] 3=0 by decide,show openP [1,2] 3=[1,2,3] by decide] at c3
 have I3:Hid (LInv [1,2,3] []):=Lib.hid (by have:=LInv.open I2.out 3; rwa [show openP [1,2] 3=[1,2,3] by decide] at this)
 go_wp2_with fail
 refine c3.out.mono ?_
 rintro e w3 ⟨rfl,h3,k3⟩
 have H3:=Lib.hid h3
 have B3:=Lib.hid (B2.out.trans (k3.below B2.out.size (fun b hb e=>by omega)))
 clear h3 k3 c3 H2 B2 I2
 have c4:=Lib.hid (ptrust_any (a:=2) (b:=1) (c:=6) (n:=9) H3.out I3.out (by unfold In8; decide) (by unfold In8; decide) (by unfold In8; decide))
 rw [show trustE [1,2,3] [] 2 1 6 9=0 by decide,show trustL [1,2,3] [] 2 1 6 9=[⟨2,1,6,9,0⟩] by decide] at c4
 have I4:Hid (LInv [1,2,3] [⟨2,1,6,9,0⟩]):=Lib.hid (by have:=LInv.trust I3.out 2 1 6 9; rwa [show trustL [1,2,3] [] 2 1 6 9=[⟨2,1,6,9,0⟩] by decide] at this)
 go_wp2_with fail
 refine c4.out.mono ?_
 rintro e w4 ⟨rfl,h4,k4⟩
 have H4:=Lib.hid h4
 have B4:=Lib.hid (B3.out.trans (k4.below B3.out.size (fun b hb e=>by omega)))
 clear h4 k4 c4 H3 B3 I3
 have c5:=Lib.hid (ptrust_any (a:=3) (b:=2) (c:=6) (n:=9) H4.out I4.out (by unfold In8; decide) (by unfold In8; decide) (by unfold In8; decide))
 rw [show trustE [1,2,3] [⟨2,1,6,9,0⟩] 3 2 6 9=0 by decide,show trustL [1,2,3] [⟨2,1,6,9,0⟩] 3 2 6 9=[⟨2,1,6,9,0⟩,⟨3,2,6,9,0⟩] by decide] at c5
 have I5:Hid (LInv [1,2,3] [⟨2,1,6,9,0⟩,⟨3,2,6,9,0⟩]):=Lib.hid (by have:=LInv.trust I4.out 3 2 6 9; rwa [show trustL [1,2,3] [⟨2,1,6,9,0⟩] 3 2 6 9=[⟨2,1,6,9,0⟩,⟨3,2,6,9,0⟩] by decide] at this)
 go_wp2_with fail
 refine c5.out.mono ?_
 rintro e w5 ⟨rfl,h5,k5⟩
 have H5:=Lib.hid h5
 have B5:=Lib.hid (B4.out.trans (k5.below B4.out.size (fun b hb e=>by omega)))
 clear h5 k5 c5 H4 B4 I4
 have c6:=Lib.hid (ptrust_any (a:=1) (b:=3) (c:=6) (n:=9) H5.out I5.out (by unfold In8; decide) (by unfold In8; decide) (by unfold In8; decide))
 rw [show trustE [1,2,3] [⟨2,1,6,9,0⟩,⟨3,2,6,9,0⟩] 1 3 6 9=0 by decide,show trustL [1,2,3] [⟨2,1,6,9,0⟩,⟨3,2,6,9,0⟩] 1 3 6 9=[⟨1,3,6,9,0⟩,⟨2,1,6,9,0⟩,⟨3,2,6,9,0⟩] by decide] at c6
 have I6:Hid (LInv [1,2,3] [⟨1,3,6,9,0⟩,⟨2,1,6,9,0⟩,⟨3,2,6,9,0⟩]):=Lib.hid (by have:=LInv.trust I5.out 1 3 6 9; rwa [show trustL [1,2,3] [⟨2,1,6,9,0⟩,⟨3,2,6,9,0⟩] 1 3 6 9=[⟨1,3,6,9,0⟩,⟨2,1,6,9,0⟩,⟨3,2,6,9,0⟩] by decide] at this)
 go_wp2_with fail
 refine c6.out.mono ?_
 rintro e w6 ⟨rfl,h6,k6⟩
 have H6:=Lib.hid h6
 have B6:=Lib.hid (B5.out.trans (k6.below B5.out.size (fun b hb e=>by omega)))
 clear h6 k6 c6 H5 B5 I5
 have c7:=Lib.hid (ppush_any (a:=1) (b:=2) (c:=6) (n:=5) H6.out I6.out (by unfold In8; decide) (by unfold In8; decide) (by unfold In8; decide) (by unfold In64; decide))
 rw [show pushE [1,2,3] [⟨1,3,6,9,0⟩,⟨2,1,6,9,0⟩,⟨3,2,6,9,0⟩] 1 2 6 5=0 by decide,show pushL [1,2,3] [⟨1,3,6,9,0⟩,⟨2,1,6,9,0⟩,⟨3,2,6,9,0⟩] 1 2 6 5=[⟨1,3,6,9,0⟩,⟨2,1,6,9,5⟩,⟨3,2,6,9,0⟩] by decide] at c7
 have I7:Hid (LInv [1,2,3] [⟨1,3,6,9,0⟩,⟨2,1,6,9,5⟩,⟨3,2,6,9,0⟩]):=Lib.hid (by have:=LInv.push I6.out 1 2 6 5; rwa [show pushL [1,2,3] [⟨1,3,6,9,0⟩,⟨2,1,6,9,0⟩,⟨3,2,6,9,0⟩] 1 2 6 5=[⟨1,3,6,9,0⟩,⟨2,1,6,9,5⟩,⟨3,2,6,9,0⟩] by decide] at this)
 go_wp2_with fail
 refine c7.out.mono ?_
 rintro e w7 ⟨rfl,h7,k7⟩
 have H7:=Lib.hid h7
 have B7:=Lib.hid (B6.out.trans (k7.below B6.out.size (fun b hb e=>by omega)))
 clear h7 k7 c7 H6 B6 I6
 have c8:=Lib.hid (ppush_any (a:=2) (b:=3) (c:=6) (n:=3) H7.out I7.out (by unfold In8; decide) (by unfold In8; decide) (by unfold In8; decide) (by unfold In64; decide))
 rw [show pushE [1,2,3] [⟨1,3,6,9,0⟩,⟨2,1,6,9,5⟩,⟨3,2,6,9,0⟩] 2 3 6 3=0 by decide,show pushL [1,2,3] [⟨1,3,6,9,0⟩,⟨2,1,6,9,5⟩,⟨3,2,6,9,0⟩] 2 3 6 3=[⟨1,3,6,9,0⟩,⟨2,1,6,9,5⟩,⟨3,2,6,9,3⟩] by decide] at c8
 have I8:Hid (LInv [1,2,3] [⟨1,3,6,9,0⟩,⟨2,1,6,9,5⟩,⟨3,2,6,9,3⟩]):=Lib.hid (by have:=LInv.push I7.out 2 3 6 3; rwa [show pushL [1,2,3] [⟨1,3,6,9,0⟩,⟨2,1,6,9,5⟩,⟨3,2,6,9,0⟩] 2 3 6 3=[⟨1,3,6,9,0⟩,⟨2,1,6,9,5⟩,⟨3,2,6,9,3⟩] by decide] at this)
 go_wp2_with fail
 refine c8.out.mono ?_
 rintro e w8 ⟨rfl,h8,k8⟩
 have H8:=Lib.hid h8
 have B8:=Lib.hid (B7.out.trans (k8.below B7.out.size (fun b hb e=>by omega)))
 clear h8 k8 c8 H7 B7 I7
 have c9:=Lib.hid (ppush_any (a:=3) (b:=1) (c:=6) (n:=4) H8.out I8.out (by unfold In8; decide) (by unfold In8; decide) (by unfold In8; decide) (by unfold In64; decide))
 rw [show pushE [1,2,3] [⟨1,3,6,9,0⟩,⟨2,1,6,9,5⟩,⟨3,2,6,9,3⟩] 3 1 6 4=0 by decide,show pushL [1,2,3] [⟨1,3,6,9,0⟩,⟨2,1,6,9,5⟩,⟨3,2,6,9,3⟩] 3 1 6 4=[⟨1,3,6,9,4⟩,⟨2,1,6,9,5⟩,⟨3,2,6,9,3⟩] by decide] at c9
 have I9:Hid (LInv [1,2,3] [⟨1,3,6,9,4⟩,⟨2,1,6,9,5⟩,⟨3,2,6,9,3⟩]):=Lib.hid (by have:=LInv.push I8.out 3 1 6 4; rwa [show pushL [1,2,3] [⟨1,3,6,9,0⟩,⟨2,1,6,9,5⟩,⟨3,2,6,9,3⟩] 3 1 6 4=[⟨1,3,6,9,4⟩,⟨2,1,6,9,5⟩,⟨3,2,6,9,3⟩] by decide] at this)
 go_wp2_with fail
 refine c9.out.mono ?_
 rintro e w9 ⟨rfl,h9,k9⟩
 have H9:=Lib.hid h9
 have B9:=Lib.hid (B8.out.trans (k9.below B8.out.size (fun b hb e=>by omega)))
 clear h9 k9 c9 H8 B8 I8
 have J:Hid (LInv p13 l13):=Lib.hid I9.out
 have Jm:Hid (LInv p13 m13):=Lib.hid (netL_inv J.out 6 L13)
 have HX:Hid (LedM w9 G M p13 l13):=Lib.hid H9.out
 have cD:=Lib.hid (HDo.out.at_ HX.out J.out 6 (by unfold In8; decide))
 rw [d13] at cD
 clear H9 I9
 go_wp2_with fail
 refine cD.out.mono ?_
 rintro e v0 ⟨da,rfl,ra,b0⟩
 obtain ⟨aoa,rfl,_⟩:=rowed_shape ra
 have RA0:=Lib.hid ra
 have HM0:M<v0.heap.size:=Nat.lt_of_lt_of_le HX.out.map.lt b0.size
 have HMa:M<w9.heap.size:=HX.out.map.lt
 have X0:=Lib.hid (HX.out.below b0)
 have Y0:=Lib.hid (B9.out.trans (b0.mono B9.out.size))
 have cN:=Lib.hid (HNo.out.at_ X0.out J.out 6 0 (by unfold In8; decide) (by unfold In64; decide))
 clear ra b0 cD HX B9
 go_wp2_with fail
 refine cN.out.mono ?_
 rintro e v1 ⟨gone,many,er,ms,ha,rfl,h1,k1⟩
 obtain ⟨rfl,rfl,rfl,rfl⟩:=ha.eq lv13_a
 have RA1:=Lib.hid (RA0.out.keep k1 (fun b hb e=>by have:=rowed_own RA0.out hb; omega))
 have X1:=Lib.hid h1
 have Y1:=Lib.hid (Y0.out.trans (k1.below Y0.out.size (fun b hb e=>by omega)))
 have cN2:=Lib.hid (HNo.out.at_ X1.out J.out 6 1 (by unfold In8; decide) (by unfold In64; decide))
 have S1:=k1.size
 clear ha h1 k1 cN X0 Y0 RA0
 go_wp2_with fail
 refine cN2.out.mono ?_
 rintro e v2 ⟨gone,many,er,ms,ha,rfl,h2,k2⟩
 obtain ⟨rfl,rfl,rfl,rfl⟩:=ha.eq (lv13_b J.out)
 have RA2:=Lib.hid (RA1.out.keep k2 (fun b hb e=>by have:=rowed_own RA1.out hb; omega))
 have X2:=Lib.hid h2
 have Y2:=Lib.hid (Y1.out.trans (k2.below Y1.out.size (fun b hb e=>by omega)))
 have cD2:=Lib.hid (HDo.out.at_ X2.out Jm.out 6 (by unfold In8; decide))
 rw [e13 J.out] at cD2
 have S2:=k2.size
 clear ha h2 k2 cN2 X1 Y1 RA1
 go_wp2_with fail
 refine cD2.out.mono ?_
 rintro e v3 ⟨dbv,rfl,rb,b3⟩
 obtain ⟨aob,rfl,_⟩:=rowed_shape rb
 have RB3:=Lib.hid rb
 have RA3:=Lib.hid (RA2.out.below b3)
 have X3:=Lib.hid (X2.out.below b3)
 have Y3:=Lib.hid (Y2.out.trans (b3.mono Y2.out.size))
 have cN3:=Lib.hid (HNo.out.at_ X3.out Jm.out 6 0 (by unfold In8; decide) (by unfold In64; decide))
 have HMb:M<v2.heap.size:=by omega
 clear rb b3 cD2 X2 Y2 RA2
 go_wp2_with fail
 refine cN3.out.mono ?_
 rintro e v4 ⟨gone,many,er,ms,ha,rfl,_,k4⟩
 obtain ⟨mz,hz⟩:=lv13_c J.out
 obtain ⟨rfl,rfl,rfl,rfl⟩:=ha.eq hz
 have RA4:=Lib.hid (RA3.out.keep k4 (fun b hb e=>by have:=rowed_own RA3.out hb; omega))
 have RB4:=Lib.hid (RB3.out.keep k4 (fun b hb e=>by have:=rowed_own RB3.out hb; omega))
 have Y4:=Lib.hid (Y3.out.trans (k4.below Y3.out.size (fun b hb e=>by omega)))
 clear ha hz k4 cN3 X3 Y3 RA3 RB3
 have X5:=Lib.hid ((Below.refl v4.heap.size v4).alloc (Nat.le_refl _) (.cells #[.int .u8 1,.int .u8 2,.int .i64 5,.int .u8 2,.int .u8 3,.int .i64 3,.int .u8 3,.int .u8 1,.int .i64 4] 54))
 have RL:=Lib.hid (reads_blk (cap:=3) (xs:=fwCells lvD) (n:=3) (size:=3) (Blk.new v4 #[.int .u8 1,.int .u8 2,.int .i64 5,.int .u8 2,.int .u8 3,.int .i64 3,.int .u8 3,.int .u8 1,.int .i64 4] 54) (by decide) (by decide) (fun j hj=>by rw [← Array.getElem?_toList]; rfl))
 have S3:=Lib.hid (SameFlows_any (la:=lvD) (lb:=lvD) ((RA4.out.below X5.out).reads (by decide)) RL.out)
 rw [decide_eq_true rfl] at S3
 clear RL RA4
 go_wp2_with fail
 refine S3.out.mono ?_
 rintro e v5 ⟨rfl,b5⟩
 have X6:=Lib.hid (X5.out.trans (b5.mono X5.out.size))
 have Y5:=Lib.hid (Y4.out.trans (X6.out.mono Y4.out.size))
 have RB5:=Lib.hid (RB4.out.below X6.out)
 have X7:=Lib.hid ((Below.refl v5.heap.size v5).alloc (Nat.le_refl _) (.cells #[.int .u8 1,.int .u8 2,.int .i64 2,.int .u8 3,.int .u8 1,.int .i64 1] 54))
 have RL2:=Lib.hid (reads_blk (cap:=2) (xs:=fwCells lvL) (n:=2) (size:=3) (Blk.new v5 #[.int .u8 1,.int .u8 2,.int .i64 2,.int .u8 3,.int .u8 1,.int .i64 1] 54) (by decide) (by decide) (fun j hj=>by rw [← Array.getElem?_toList]; rfl))
 have S4:=Lib.hid (SameFlows_any (la:=lvL) (lb:=lvL) ((RB5.out.below X7.out).reads (by decide)) RL2.out)
 rw [decide_eq_true rfl] at S4
 clear b5 S3 RL2 RB4 RB5 X5 Y4
 go_wp2_with fail
 refine S4.out.mono ?_
 rintro e v6 ⟨rfl,b6⟩
 have Y6:=Lib.hid (Y5.out.trans ((X7.out.trans (b6.mono X7.out.size)).mono Y5.out.size))
 clear b6 S4 X7 Y5
 go_wp2_with fail
 go_ret
 exact ⟨rfl,Y6.out⟩
end Go.Proofs.Ytlbjjkbppbmihaa
namespace Go.Proofs.Ytlbjjkbppbmihaa
open Go.RowKit
def halfL (ls:List Ln) (k:Nat):List Ln:=(ls.take k).map (fun x=>x.owe 0)++ls.drop k
theorem halfL_len (ls:List Ln) (k:Nat):(halfL ls k).length=ls.length:=by unfold halfL; simp; omega
theorem halfL_zero (ls:List Ln):halfL ls 0=ls:=by unfold halfL; simp
theorem halfL_get {ls:List Ln} {k:Nat} (h:k<ls.length):(halfL ls k)[k]'(by rw [halfL_len]; exact h)=ls[k]:=by
 unfold halfL
 rw [List.getElem_append_right (by simp; omega)]
 simp [Nat.min_eq_left (Nat.le_of_lt h)]
theorem halfL_next {ls:List Ln} {k:Nat} (h:k<ls.length):halfL ls (k + 1)=(halfL ls k).set k (ls[k].owe 0):=by
 unfold halfL
 rw [List.take_succ_eq_append_getElem h,List.map_append,List.append_assoc,List.set_append_right _ _ (by simp; omega)]
 congr 1
 rw [show ls.drop k=ls[k]::ls.drop (k + 1) from List.drop_eq_getElem_cons h]
 simp only [List.length_map,List.length_take,Nat.min_eq_left (Nat.le_of_lt h),Nat.sub_self,List.set_cons_zero,List.map_cons,List.map_nil,List.singleton_append]
theorem half_cell {ls:List Ln} {k j:Nat} (hk:k<ls.length) (hj:j<5):(lnCells (halfL ls k))[k * 5 + j]? = ls[k].vals[j]? := by
 rw [lnCells_get _ _ _ hj (by rw [halfL_len]; exact hk),halfL_get hk]
theorem half_set {ls:List Ln} {k:Nat} (hk:k<ls.length):lnCells (halfL ls (k + 1))=(lnCells (halfL ls k)).set (k * 5 + 4) (.int .i64 0):=by
 rw [halfL_next hk]
 refine lnCells_set _ (by rw [halfL_len]; exact hk) (by decide) ?_
 rw [halfL_get hk]
 rfl
theorem halfL_got {ls:List Ln} {k:Nat} (h:k<ls.length):(halfL ls (k + 1))[k]'(by rw [halfL_len]; exact h)=ls[k].owe 0:=by
 simp only [halfL_next h,List.getElem_set_self]
theorem half_got {ls:List Ln} {k j:Nat} (hk:k<ls.length) (hj:j<5):(lnCells (halfL ls (k + 1)))[k * 5 + j]? = (ls[k].owe 0).vals[j]? := by
 rw [lnCells_get _ _ _ hj (by rw [halfL_len]; exact hk),halfL_got hk]
theorem Rowed.frozen {w:World} {base:Nat} {e:TypeId} {size:Nat} {g n cap:Nat} {xs:List Value} (h:Rowed w base e size (.slice (some ⟨g,0,none⟩) n cap) n xs) (j:Nat):w.frozen? ⟨g,j,none⟩=false:=by
 obtain ⟨_,h2⟩:=h
 rcases h2 with ⟨h2,_⟩ | ⟨g',cur,hv,hb,hg,hm,hc,ht⟩
 ·cases h2
 ·cases hv
  have hB:Blk w g cur e:=hg
  exact hB.frozen j
def SoundAt (w:World) (b1 b2:Nat) (va vb:Value) (ls ls2:List Ln) (i:Value) (wr:World):Prop :=
 ∃ k:Nat,k≤ls.length∧i=.int .i64 k∧Rowed wr b1 45 5 va ls.length (lnCells (halfL ls k))∧Rowed wr b2 45 5 vb ls.length (lnCells (halfL ls2 k))∧Below w.heap.size w wr
set_option maxHeartbeats 16000000 in
set_option maxRecDepth 100000 in
theorem sound_any {w:World} {G M G2 M2:Nat} {ps ps2:List Int} {ls ls2:List Ln} (hL:LedM w G M ps ls) (hI:LInv ps ls) (hC:LedM w G2 M2 ps2 ls2) (hJ:LInv ps2 ls2) (he:limL ls=limL ls2) :
  Calls Try.prog 14 #[.pointer (some ⟨G,0,none⟩),.pointer (some ⟨G2,0,none⟩)] w fun e w'=>e=.returned (.bool true)∧Below w.heap.size w w':=by
 have C1:=Lib.hid (plines_any hL hI)
 have C2:=Lib.hid (fun w' (k:Below w.heap.size w w')=>plines_any (hC.below k) hJ)
 have hlen:ls2.length=ls.length:=by have:=congrArg List.length he; unfold limL at this; simpa using this.symm
 have HG:=Lib.hid hI.inv.good
 have HX:Hid (∀ k (h:k<ls.length),∃ db,ls2[k]'(by omega)=ls[k].owe db):=Lib.hid (fun k h=>by
  have h1:(limL ls)[k]? = (limL ls2)[k]? := by rw [he]
  unfold limL at h1
  rw [List.getElem?_map,List.getElem?_map,List.getElem?_eq_getElem h,List.getElem?_eq_getElem (by omega)] at h1
  simp only [Option.map_some,Option.some.injEq] at h1
  refine ⟨(ls2[k]'(by omega)).db,?_⟩
  have a:=congrArg Ln.cr h1; have b:=congrArg Ln.de h1; have c:=congrArg Ln.cu h1; have d:=congrArg Ln.li h1
  simp only [Ln.owe] at a b c d ⊢
  rw [a,b,c,d])
 have hl64:=hI.len
 clear hL hI hC hJ he
 go_enter Try.func14,Try.ntmps14
 go_wp2_with fail
 refine C1.out.mono ?_
 rintro e w1 ⟨va,rfl,ra,b1⟩
 obtain ⟨aa,rfl,ha⟩:=rowed_shape ra
 have HA:Hid (0<ls.length→∃ g,aa=some ⟨g,0,none⟩∧g<w1.heap.size∧w.heap.size≤g):=Lib.hid (fun h=>by
  obtain ⟨g,h1,h3,h2,_⟩:=ha h
  exact ⟨g,h1,h2,h3⟩)
 have RA:=Lib.hid ra
 have B1:=Lib.hid b1
 clear ra ha b1 C1
 go_wp2_with fail
 refine (C2.out w1 B1.out).mono ?_
 rintro e w2 ⟨vb,rfl,rb,b2⟩
 rw [hlen] at rb
 obtain ⟨ab,rfl,hb⟩:=rowed_shape rb
 have HB:Hid (0<ls.length→∃ g,ab=some ⟨g,0,none⟩∧w1.heap.size≤g):=Lib.hid (fun h=>by
  obtain ⟨g,h1,h2,_⟩:=hb h
  exact ⟨g,h1,h2⟩)
 have RA2:=Lib.hid (RA.out.below b2)
 have RB2:=Lib.hid rb
 have B2:=Lib.hid (B1.out.trans (b2.mono B1.out.size))
 have hw12:=b2.size
 have hww1:=B1.out.size
 clear rb hb b2 C2 RA B1
 go_wp2_with fail
 go_loopw [7] (SoundAt w w.heap.size w1.heap.size (.slice aa ls.length ls.length) (.slice ab ls.length ls.length) ls ls2) (fun i _=>ls.length - (intOf i).toNat)
 case atStart=>exact ⟨0,by omega,rfl,by rw [halfL_zero]; exact RA2.out,by rw [halfL_zero]; exact RB2.out,B2.out⟩
 case round =>
  clear RA2 RB2 B2
  obtain ⟨k,hk,rfl,hRA,hRB,hB⟩:=hrel
  have BB:=Lib.hid hB
  clear hB
  by_cases hkl:k<ls.length
  ·have hki:(k:Int)<(ls.length:Int):=by omega
   have hk0:(0:Int)≤(k:Int):=by omega
   have q0:decide ((k:Int)<(ls.length:Int))=true:=by simpa using hkl
   obtain ⟨ga,rfl,hga,hgaw⟩:=HA.out (by omega)
   obtain ⟨gb,rfl,hgb⟩:=HB.out (by omega)
   obtain ⟨aa',hva,hra⟩:=rowed_shape hRA
   obtain ⟨ab',hvb,hrb⟩:=rowed_shape hRB
   simp only [Value.slice.injEq,and_true] at hva hvb
   subst hva
   subst hvb
   obtain ⟨_,e1,_,hal,hac⟩:=hra (by omega)
   cases e1
   obtain ⟨_,e1,_,hbl,hbc⟩:=hrb (by omega)
   cases e1
   have hl2:k<ls2.length:=by omega
   have a0:=(hac (k * 5 + 0) (by omega)).trans (half_cell hkl (j:=0) (by omega))
   have a1:=(hac (k * 5 + 1) (by omega)).trans (half_cell hkl (j:=1) (by omega))
   have a2:=(hac (k * 5 + 2) (by omega)).trans (half_cell hkl (j:=2) (by omega))
   have a3:=(hac (k * 5 + 3) (by omega)).trans (half_cell hkl (j:=3) (by omega))
   have a4:=(hac (k * 5 + 4) (by omega)).trans (half_cell hkl (j:=4) (by omega))
   have c0:=(hbc (k * 5 + 0) (by omega)).trans (half_cell hl2 (j:=0) (by omega))
   have c1:=(hbc (k * 5 + 1) (by omega)).trans (half_cell hl2 (j:=1) (by omega))
   have c2:=(hbc (k * 5 + 2) (by omega)).trans (half_cell hl2 (j:=2) (by omega))
   have c3:=(hbc (k * 5 + 3) (by omega)).trans (half_cell hl2 (j:=3) (by omega))
   have c4:=(hbc (k * 5 + 4) (by omega)).trans (half_cell hl2 (j:=4) (by omega))
   have SA:=Lib.hid (half_set hkl)
   have SB:=Lib.hid (half_set hl2)
   have hg:=HG.out ls[k] (List.getElem_mem _)
   obtain ⟨db2,hx2⟩:=HX.out k hkl
   rw [hx2] at c0 c1 c2 c3 c4
   have GA:=Lib.hid (fun j (hj:j<5)=>half_got hkl hj)
   have GB:=Lib.hid (fun j (hj:j<5)=>half_got hl2 hj)
   rw [hx2] at GB
   obtain ⟨x,hx⟩:∃ x,ls[k]=x:=⟨_,rfl⟩
   rw [hx] at a0 a1 a2 a3 a4 c0 c1 c2 c3 c4 hg GA GB
   clear hx hx2 hra hrb hac hbc
   obtain ⟨cr,de,cu,li,db⟩:=x
   have g1:=hg.db.1
   have g2:=hg.db.2
   dsimp only at g1 g2
   simp only [Ln.vals,Ln.owe,List.getElem?_cons_zero,List.getElem?_cons_succ,Nat.add_zero] at a0 a1 a2 a3 a4 c0 c1 c2 c3 c4
   have q1:decide (db<0)=false:=by simp; omega
   have q2:decide (li<db)=false:=by simp; omega
   have HK:=Lib.hid hkl
   have RA:=Lib.hid hRA
   have RB:=Lib.hid hRB
   clear hRA hRB hg g1 g2
   go_wp2_with fail
   go_quiet (fail)
   have RA1:=Lib.hid (show Rowed (wr.drewN nq) w.heap.size 45 5 _ ls.length _ from RA.out)
   have RB1:=Lib.hid (show Rowed (wr.drewN nq) w1.heap.size 45 5 _ ls.length _ from RB.out)
   have BB1:=Lib.hid (show Below w.heap.size w (wr.drewN nq) from ⟨BB.out.os,BB.out.tape,BB.out.output,BB.out.size,BB.out.block⟩)
   replace a4:(wr.drewN nq).cell? ⟨ga,k * 5 + 4,none⟩=_:=a4
   replace c4:(wr.drewN nq).cell? ⟨gb,k * 5 + 4,none⟩=_:=c4
   replace hal:ga<(wr.drewN nq).heap.size:=hal
   replace hbl:gb<(wr.drewN nq).heap.size:=hbl
   clear RA RB BB a0 a1 a2 a3 c0 c1 c2 c3
   generalize wr.drewN nq=W1 at *
   have fa:=RA1.out.frozen (k * 5 + 4)
   have fb:=RB1.out.frozen (k * 5 + 4)
   have hgn:ga≠gb:=by omega
   have RA3:=Lib.hid ((RA1.out.set (j:=k * 5 + 4) (by omega) (.int .i64 0)).keep ((Keep.refl (·=gb) _).setCell (p:=⟨gb,k * 5 + 4,none⟩) (.inl rfl) (.int .i64 0)) (fun b hb=>by cases hb; exact hgn))
   have RB3:=Lib.hid ((RB1.out.keep ((Keep.refl (·=ga) W1).setCell (p:=⟨ga,k * 5 + 4,none⟩) (.inl rfl) (.int .i64 0)) (fun b hb=>by cases hb; exact fun e=>hgn e.symm)).set (j:=k * 5 + 4) (by omega) (.int .i64 0))
   rw [← SA.out] at RA3
   rw [← SB.out] at RB3
   go_upto_region 12 with fail
   have BB3:=Lib.hid ((BB1.out.setCell (p:=⟨ga,k * 5 + 4,none⟩) hgaw (.int .i64 0)).setCell (p:=⟨gb,k * 5 + 4,none⟩) (by show w.heap.size≤gb; omega) (.int .i64 0))
   clear RA1 RB1 BB1 a4 c4 fa fb hal hbl
   generalize (W1.setCell ⟨ga,k * 5 + 4,none⟩ (.int .i64 0)).setCell ⟨gb,k * 5 + 4,none⟩ (.int .i64 0)=W3 at *
   obtain ⟨aa',hva,hra⟩:=rowed_shape RA3.out
   obtain ⟨ab',hvb,hrb⟩:=rowed_shape RB3.out
   simp only [Value.slice.injEq,and_true] at hva hvb
   subst hva
   subst hvb
   obtain ⟨_,e1,_,hal,hac⟩:=hra (by have:=HK.out; omega)
   cases e1
   obtain ⟨_,e1,_,hbl,hbc⟩:=hrb (by have:=HK.out; omega)
   cases e1
   have a0:=(hac (k * 5 + 0) (by omega)).trans (GA.out 0 (by omega))
   have a1:=(hac (k * 5 + 1) (by omega)).trans (GA.out 1 (by omega))
   have a2:=(hac (k * 5 + 2) (by omega)).trans (GA.out 2 (by omega))
   have a3:=(hac (k * 5 + 3) (by omega)).trans (GA.out 3 (by omega))
   have a4:=(hac (k * 5 + 4) (by omega)).trans (GA.out 4 (by omega))
   have c0:=(hbc (k * 5 + 0) (by omega)).trans (GB.out 0 (by omega))
   have c1:=(hbc (k * 5 + 1) (by omega)).trans (GB.out 1 (by omega))
   have c2:=(hbc (k * 5 + 2) (by omega)).trans (GB.out 2 (by omega))
   have c3:=(hbc (k * 5 + 3) (by omega)).trans (GB.out 3 (by omega))
   have c4:=(hbc (k * 5 + 4) (by omega)).trans (GB.out 4 (by omega))
   simp only [Ln.vals,Ln.owe,List.getElem?_cons_zero,List.getElem?_cons_succ,Nat.add_zero] at a0 a1 a2 a3 a4 c0 c1 c2 c3 c4
   clear hra hrb hac hbc GA GB
   go_wp2_with fail
   go_quiet (fail)
   have RA4:=Lib.hid (show Rowed (W3.drewN nq) w.heap.size 45 5 _ ls.length _ from RA3.out)
   have RB4:=Lib.hid (show Rowed (W3.drewN nq) w1.heap.size 45 5 _ ls.length _ from RB3.out)
   have BB4:=Lib.hid (show Below w.heap.size w (W3.drewN nq) from ⟨BB3.out.os,BB3.out.tape,BB3.out.output,BB3.out.size,BB3.out.block⟩)
   clear RA3 RB3 BB3 a0 a1 a2 a3 a4 c0 c1 c2 c3 c4 hal hbl
   generalize W3.drewN nq=W4 at *
   go_wp2_with fail
   exact ⟨⟨k + 1,by have:=HK.out; omega,by go_num,RA4.out,RB4.out,BB4.out⟩,by simp [intOf]; have:=HK.out; omega⟩
  ·have hkn:k=ls.length:=by omega
   subst hkn
   have q0:decide (((ls.length:Nat):Int)<(ls.length:Int))=false:=by simp
   clear hRA hRB
   go_wp2_with fail
   go_ret
   exact ⟨rfl,BB.out⟩
end Go.Proofs.Ytlbjjkbppbmihaa
namespace Go.Proofs.Ytlbjjkbppbmihaa
open Go.RowKit
theorem lineV13 (ls:List Ln) (a b c:Int):lineV (lineL ls a b c)=.tuple #[.agg #[.int .u8 (lnAt ls a b c).cr,.int .u8 (lnAt ls a b c).de,.int .u8 (lnAt ls a b c).cu,.int .i64 (lnAt ls a b c).li,.int .i64 (lnAt ls a b c).db],.bool (lineL ls a b c).isSome]:=by
 unfold lnAt
 cases lineL ls a b c with
 | none=>rfl
 | some x=>rfl
theorem rem_nx {n k:Nat} (hk:k<n):((k:Int) + 1).tmod (n:Int)=(nxR n k:Nat):=by
 rw [Int.tmod_eq_emod_of_nonneg (by omega)]
 unfold nxR
 split
 ·rename_i h
  rw [← h,show ((k:Int) + 1)=((k + 1:Nat):Int) by omega,Int.emod_self]
  rfl
 ·rw [Int.emod_eq_of_lt (by omega) (by omega)]
  omega
def RgO (w:World) (G M n:Nat) (i:Value) (wr:World):Prop :=
 ∃ (k:Nat) (ps:List Int),k≤n∧i=.int .i64 k∧LedM wr G M ps []∧LInv ps []∧(∀ p,p ∈ ps↔1≤p∧p≤(k:Int))∧Below w.heap.size w wr
def RgT (w:World) (G M n:Nat) (z:Nat→Int) (cu:Int) (ps:List Int) (lv i:Value) (wr:World):Prop :=
 ∃ (k:Nat) (ls:List Ln),k≤n∧i=.int .i64 k∧lv=.int .i64 (lsN z k)∧LedM wr G M ps ls∧LInv ps ls∧RgL n z cu k ls∧Below w.heap.size w wr
def RgE (w:World) (G M G2 M2 n:Nat) (ps:List Int) (ls lt:List Ln) (i:Value) (wr:World):Prop :=
 ∃ k:Nat,k≤n∧i=.int .i64 k∧LedM wr G M ps lt∧LedM wr G2 M2 ps ls∧Below w.heap.size w wr
set_option maxHeartbeats 32000000 in
set_option maxRecDepth 100000 in
theorem nring_walk (HN:NetProg) (HL:Lives13) (a:Option Addr) (len cap:Nat) (zs:List Int) (cu:Int) (w:World) (h0:IsRow .u16 w a len cap zs) (hc:In8 cu) :
  Calls Try.prog 4 #[.slice a len cap,.int .u8 cu] w fun e w'=>e=.returned (.bool true)∧Below w.heap.size w w':=by
 have HNo:=Lib.hid HN
 have HLo:=Lib.hid HL
 have HCu:=Lib.hid hc
 clear HN HL hc
 by_cases h3:len<3
 ·have q:decide ((len:Int)<3)=true:=by simp; omega
  clear h0
  go_enter Try.func4,Try.ntmps4
  go_wp2_with fail
  refine (HLo.out _).mono ?_
  rintro e w1 ⟨rfl,b1⟩
  have B1:=Lib.hid b1
  clear b1
  go_wp2_with fail
  go_ret
  exact ⟨rfl,B1.out⟩
 have q1:decide ((len:Int)<3)=false:=by simp; omega
 by_cases h16:16<len
 ·have q:decide ((16:Int)<(len:Int))=true:=by simp; omega
  clear h0
  go_enter Try.func4,Try.ntmps4
  go_wp2_with fail
  refine (HLo.out _).mono ?_
  rintro e w1 ⟨rfl,b1⟩
  have B1:=Lib.hid b1
  clear b1
  go_wp2_with fail
  go_ret
  exact ⟨rfl,B1.out⟩
 have q2:decide ((16:Int)<(len:Int))=false:=by simp; omega
 by_cases hc1:cu<1
 ·have q3:decide (cu<1)=true:=by simpa using hc1
  clear h0
  go_enter Try.func4,Try.ntmps4
  go_wp2_with fail
  refine (HLo.out _).mono ?_
  rintro e w1 ⟨rfl,b1⟩
  have B1:=Lib.hid b1
  clear b1
  go_wp2_with fail
  go_ret
  exact ⟨rfl,B1.out⟩
 have q3:decide (cu<1)=false:=by simpa using hc1
 by_cases hc8:8<cu
 ·have q4:decide (8<cu)=true:=by simpa using hc8
  clear h0
  go_enter Try.func4,Try.ntmps4
  go_wp2_with fail
  refine (HLo.out _).mono ?_
  rintro e w1 ⟨rfl,b1⟩
  have B1:=Lib.hid b1
  clear b1
  go_wp2_with fail
  go_ret
  exact ⟨rfl,B1.out⟩
 have q4:decide (8<cu)=false:=by simpa using hc8
 rcases h0 with ⟨_,h,_,_⟩ | ⟨x,rfl,hlc,hcm,hzl,hcell0,hwf⟩
 ·omega
 obtain ⟨bx,ox,rfl,hcell⟩:=Go.ints_at hcell0 (by omega)
 obtain ⟨z,hz⟩:∃ z:Nat→Int,(fun i=>zs.getD i 0)=z:=⟨_,rfl⟩
 have HC:Hid (∀ i,i<len→w.cell? ⟨bx,ox + i,none⟩=some (.int .u16 (z i))):=Lib.hid fun i hi=>by
  rw [hcell i (by omega),← hz]
 have HZ:Hid (RingZ len z):=Lib.hid ⟨by omega,by omega,fun i hi=>by
  have hi2:i<zs.length:=by omega
  have h:=hwf zs[i] (List.getElem_mem hi2)
  have e:z i=zs[i]:=by rw [← hz]; show zs.getD i 0=_; rw [List.getD_eq_getElem?_getD,List.getElem?_eq_getElem hi2]; rfl
  rw [e]
  simp [Lit.wf,IntKind.min,IntKind.max,IntKind.signed,IntKind.bits] at h
  omega⟩
 have hxb:bx<w.heap.size:=World.block_lt_of_cell? _ _ (HC.out 0 (by omega))
 have n3:(3:Int)≤(len:Int):=by omega
 have n16:(len:Int)≤16:=by omega
 have HNN:Hid (3≤len∧len≤16):=Lib.hid (by omega)
 have HC8:Hid (1≤cu∧cu≤8):=Lib.hid (by omega)
 clear hcell0 hcell hwf hz hzl hc1 hc8 h3 h16
 go_enter Try.func4,Try.ntmps4
 go_wp2_with fail
 refine (new_any w).mono ?_
 rintro e w1 ⟨G,M,rfl,hL1,hG,hM,b1⟩
 have L1:=Lib.hid hL1
 have B1:=Lib.hid b1
 clear hL1 b1
 go_wp2_with fail
 go_loopw [7] (RgO w G M len) (fun i _=>len - (intOf i).toNat)
 case atStart=>exact ⟨0,[],by omega,rfl,L1.out,LInv.nil,fun p=>by simp; omega,B1.out⟩
 case round =>
  clear L1 B1
  obtain ⟨k,ps,hk,rfl,hL,hI,hP,hB⟩:=hrel
  have L0:=Lib.hid hL
  have I0:=Lib.hid hI
  have P0:=Lib.hid hP
  have B0:=Lib.hid hB
  clear hL hI hP hB
  have k0:(0:Int)≤(k:Int):=by omega
  by_cases hkl:k<len
  ·have qk:decide ((k:Int)<(len:Int))=true:=by simpa using hkl
   have k1:(k:Int)<(len:Int):=by omega
   have k2:(k:Int)<16:=by omega
   obtain ⟨e1,e2⟩:=open_last (p:=(k:Int) + 1) I0.out.rise I0.out.bd (by omega) (fun q hq=>by have:=(P0.out q).1 hq; omega)
   have CO:=Lib.hid (open_any L0.out I0.out.bd ((k:Int) + 1))
   have IN:=Lib.hid (I0.out.open ((k:Int) + 1))
   rw [e1,e2] at CO
   rw [e2] at IN
   have PN:=Lib.hid (fun p=>(by
    rw [List.mem_append,P0.out p,List.mem_singleton]
    constructor
    ·rintro (h | h)
     ·omega
     ·omega
    ·intro h
     by_cases hp:p=(k:Int) + 1
     ·exact .inr hp
     ·exact .inl (by omega):p ∈ ps++[(k:Int) + 1]↔1≤p∧p≤((k + 1:Nat):Int)))
   have HK:=Lib.hid hkl
   clear e1 e2
   go_wp2_with fail
   refine CO.out.mono ?_
   rintro e w2 ⟨rfl,hL2,k2⟩
   have L2:=Lib.hid hL2
   have B2:=Lib.hid (B0.out.trans (k2.below B0.out.size (fun q hq e=>by omega)))
   clear hL2 k2 CO
   go_wp2_with fail
   exact ⟨⟨k + 1,_,by have:=HK.out; omega,by go_num,L2.out,IN.out,PN.out,B2.out⟩,by simp [intOf]; have:=HK.out; omega⟩
  ·have hkn:k=len:=by omega
   subst hkn
   have qk:decide (((k:Nat):Int)<(k:Int))=false:=by simp
   go_wp2_with fail
   go_loopw [8,9] (RgT w G M k z cu ps) (fun _ i _=>k - (intOf i).toNat)
   case atStart=>exact ⟨0,[],by omega,rfl,rfl,L0.out,I0.out,RgL.zero _ _ _,B0.out⟩
   case round =>
    clear L0 I0 B0
    obtain ⟨j,ls,hj,rfl,rfl,hL,hI,hR,hB⟩:=hrel
    have L0:=Lib.hid hL
    have I0:=Lib.hid hI
    have R0:=Lib.hid hR
    have B0:=Lib.hid hB
    clear hL hI hR hB
    have j0:(0:Int)≤(j:Int):=by omega
    by_cases hjl:j<k
    ·have qj:decide ((j:Int)<(k:Int))=true:=by simpa using hjl
     have j1:(j:Int)<(k:Int):=by omega
     have j2:(j:Int)<16:=by omega
     have hrem:=rem_nx hjl
     have hnx:=nxR_lt hjl
     have d0:=(B0.out.cell (p:=⟨bx,ox + j,none⟩) hxb).trans (HC.out j hjl)
     have hbr:=Nat.lt_of_lt_of_le hxb B0.out.size
     obtain ⟨z0,z9⟩:=HZ.out.z0 j hjl
     have ST:=R0.out.step I0.out HZ.out HC8.out (fun p h1 h2=>(P0.out p).2 ⟨h1,h2⟩) hjl
     have NL:=Lib.hid (show lsN z (j + 1)=min (lsN z j) (z j + 1) from rfl)
     have HJ:=Lib.hid hjl
     have l9:=(lsN_le z j).1
     have l0:0≤lsN z j:=by
      refine le_lsN (by omega) j fun i hi=>?_
      have:=HZ.out.z0 i (by omega)
      omega
     obtain ⟨y,hy⟩:∃ y:Int,((nxR k j:Nat):Int)=y:=⟨_,rfl⟩
     have te:=ST.te
     have pe:=ST.pe
     have th:=Lib.hid ST.then_
     rw [hy] at te pe th hrem
     have y0:0≤y:=by omega
     have y9:y<16:=by omega
     have CT:=Lib.hid (ptrust_any (a:=y + 1) (b:=(j:Int) + 1) (c:=cu) (n:=z j + 1) L0.out I0.out ⟨by omega,by omega⟩ ⟨by omega,by omega⟩ HCu.out)
     have IT:=Lib.hid (I0.out.trust (y + 1) ((j:Int) + 1) cu (z j + 1))
     rw [te] at CT
     have CP:=Lib.hid (fun w' (h:LedM w' G M ps (trustL ps ls (y + 1) ((j:Int) + 1) cu (z j + 1)))=>ppush_any (a:=(j:Int) + 1) (b:=y + 1) (c:=cu) (n:=z j + 1) h IT.out ⟨by omega,by omega⟩ ⟨by omega,by omega⟩ HCu.out ⟨by omega,by omega⟩)
     have IP:=Lib.hid (IT.out.push ((j:Int) + 1) (y + 1) cu (z j + 1))
     rw [pe] at CP
     generalize trustL ps ls (y + 1) ((j:Int) + 1) cu (z j + 1)=lt at *
     generalize pushL ps lt ((j:Int) + 1) (y + 1) cu (z j + 1)=lu at *
     generalize hzj:z j=v at *
     generalize hlj:lsN z j=u at *
     clear te pe ST hy hnx hzj hlj
     go_wp2_with fail
     refine CT.out.mono ?_
     rintro e w2 ⟨rfl,hL2,k2⟩
     have L2:=Lib.hid hL2
     have B2:=Lib.hid (B0.out.trans (k2.below B0.out.size (fun q hq e=>by omega)))
     clear hL2 k2 CT
     go_wp2_with fail
     refine (CP.out _ L2.out).mono ?_
     rintro e w3 ⟨rfl,hL3,k3⟩
     have L3:=Lib.hid hL3
     have B3:=Lib.hid (B2.out.trans (k3.below B2.out.size (fun q hq e=>by omega)))
     clear hL3 k3 CP
     go_wp2_with fail
     exact ⟨⟨j + 1,_,by have:=HJ.out; omega,by go_num,by rw [NL.out],L3.out,IP.out,th.out,B3.out⟩,by simp [intOf]; have:=HJ.out; omega⟩
    ·have hjk:j=k:=by omega
     subst hjk
     have qj:decide (((j:Nat):Int)<(j:Int))=false:=by simp
     obtain ⟨N3,N16⟩:=HNN.out
     have RN:=R0.out.net I0.out HZ.out
     generalize nextD (ringL j z j) (amD (ringL j z j))=L at RN
     have hls:=lsN_le z j
     have l9:lsN z j≤65536:=by have:=hls.2 0 (by omega); have:=HZ.out.z0 0 (by omega); omega
     have l0:0≤lsN z j:=by
      refine le_lsN (by omega) j fun m hm=>?_
      have:=HZ.out.z0 m (by omega)
      omega
     have p0:0≤lsN z j * (j:Int):=Int.mul_nonneg l0 (by omega)
     have p9:lsN z j * (j:Int)≤1048576:=by
      have:=Int.mul_le_mul_of_nonneg_right l9 (show 0≤(j:Int) by omega)
      omega
     have AN:=Lib.hid (show NetAns ls cu 1 (lsN z j * (j:Int)) 1 0 (netL ls cu L) from .inr ⟨HC8.out,by omega,L,1,RN.least,.inl ⟨by omega,RN.gone.symm,rfl,rfl,rfl⟩⟩)
     have EA:=Lib.hid RN.each
     have LIM:=Lib.hid (net_lims I0.out cu RN.least.inv.ok)
     have IT:=Lib.hid (netL_inv I0.out cu L)
     have LS:=Lib.hid (fun i (hi:i<j)=>hls.2 i hi)
     clear RN hls P0
     generalize netL ls cu L=lt at *
     generalize lsN z j=lst at *
     go_wp2_with fail
     refine (pcopy_any L0.out).mono ?_
     rintro e w2 ⟨G2,M2,rfl,hC2,hG2,hM2,b2⟩
     have hMl:=L0.out.map.lt
     have hGl:=L0.out.blk.lt
     have L2:=Lib.hid (L0.out.below b2)
     have C2:=Lib.hid hC2
     have B2:=Lib.hid (B0.out.trans (b2.mono B0.out.size))
     clear hC2 b2 L0 B0
     go_wp2_with fail
     refine (HNo.out.at_ L2.out I0.out cu 1 HCu.out ⟨by omega,by omega⟩).mono ?_
     rintro e w3 ⟨gone,many,er,ms,ha,rfl,hL3,k3⟩
     obtain ⟨rfl,rfl,rfl,rfl⟩:=ha.eq AN.out
     have L3:=Lib.hid hL3
     have C3:=Lib.hid (C2.out.keep k3 (by show ¬ G2=M; omega) (by show ¬ M2=M; omega))
     have B3:=Lib.hid (B2.out.trans (k3.below B2.out.size (fun q hq e=>by omega)))
     clear ha hL3 k3 L2 C2 B2 AN
     go_wp2_with fail
     go_loopw [17] (RgE w G M G2 M2 j ps ls ms) (fun i _=>j - (intOf i).toNat)
     case atStart=>exact ⟨0,by omega,rfl,L3.out,C3.out,B3.out⟩
     case round =>
      clear L3 C3 B3
      obtain ⟨i,hi,rfl,hL,hC,hB⟩:=hrel
      have L0:=Lib.hid hL
      have C0:=Lib.hid hC
      have B0:=Lib.hid hB
      clear hL hC hB
      have i0:(0:Int)≤(i:Int):=by omega
      by_cases hil:i<j
      ·have qi:decide ((i:Int)<(j:Int))=true:=by simpa using hil
       have i1:(i:Int)<(j:Int):=by omega
       have i2:(i:Int)<16:=by omega
       have hrem:=rem_nx hil
       have hnx:=nxR_lt hil
       obtain ⟨z0,z9⟩:=HZ.out.z0 i hil
       have le:=LS.out i hil
       have EE:=EA.out i hil
       obtain ⟨y,hy⟩:∃ y:Int,((nxR j i:Nat):Int)=y:=⟨_,rfl⟩
       rw [hy] at EE hrem
       have y0:0≤y:=by omega
       have y9:y<16:=by omega
       have CG:=Lib.hid (gline_any (a:=y + 1) (b:=(i:Int) + 1) (c:=cu) L0.out IT.out.inv ⟨by omega,by omega⟩ ⟨by omega,by omega⟩ HCu.out)
       rw [lineV13] at CG
       have D0:=Lib.hid (HC.out i hil)
       generalize lnAt ms (y + 1) ((i:Int) + 1) cu=x at *
       generalize (lineL ms (y + 1) ((i:Int) + 1) cu).isSome=bo at *
       generalize hzi:z i=v at *
       obtain ⟨cr,de,cc,li,db⟩:=x
       dsimp only at EE CG
       subst EE
       have HI:=Lib.hid hil
       clear hy hnx hzi
       go_wp2_with fail
       refine CG.out.mono ?_
       rintro e w4 ⟨rfl,b4⟩
       have L4:=Lib.hid (L0.out.below b4)
       have C4:=Lib.hid (C0.out.below b4)
       have B4:=Lib.hid (B0.out.trans (b4.mono B0.out.size))
       have e0:=(B4.out.cell (p:=⟨bx,ox + i,none⟩) hxb).trans D0.out
       have hbr:=Nat.lt_of_lt_of_le hxb B4.out.size
       clear b4 L0 C0 B0 CG
       go_wp2_with fail
       have KX0:=Blk.new w4 #[.int .u8 cr,.int .u8 de,.int .u8 cc,.int .i64 li,.int .i64 (v + 1 - lst)] 45
       have BV:=Lib.hid ((Below.refl w4.heap.size w4).alloc (Nat.le_refl _) (.cells #[.int .u8 cr,.int .u8 de,.int .u8 cc,.int .i64 li,.int .i64 (v + 1 - lst)] 45))
       generalize w4.alloc (.cells #[.int .u8 cr,.int .u8 de,.int .u8 cc,.int .i64 li,.int .i64 (v + 1 - lst)] 45)=V at KX0 BV ⊢
       have x4:=KX0.cell 4
       simp at x4
       have hxl:=KX0.lt
       have e1:=(BV.out.cell (p:=⟨bx,ox + i,none⟩) hbr).trans e0
       have hbV:=Nat.lt_of_lt_of_le hbr BV.out.size
       have BW:∀ m,Hid (Below w4.heap.size w4 (V.drewN m)):=fun m=>Lib.hid ⟨BV.out.os,BV.out.tape,BV.out.output,BV.out.size,BV.out.block⟩
       clear KX0 e0 hbr
       go_quiet (fail)
       go_wp2_with fail
       exact ⟨⟨i + 1,by have:=HI.out; omega,by go_num,L4.out.below (BW _).out,C4.out.below (BW _).out,B4.out.trans ((BW _).out.mono B4.out.size)⟩,by simp [intOf]; have:=HI.out; omega⟩
      ·have hij:i=j:=by omega
       subst hij
       have qi:decide (((i:Nat):Int)<(i:Int))=false:=by simp
       have CS:=Lib.hid (sound_any L0.out IT.out C0.out I0.out LIM.out)
       go_wp2_with fail
       refine CS.out.mono ?_
       rintro e w5 ⟨rfl,b5⟩
       have B5:=Lib.hid (B0.out.trans (b5.mono B0.out.size))
       clear b5 CS
       go_wp2_with fail
       refine (HLo.out _).mono ?_
       rintro e w6 ⟨rfl,b6⟩
       have B6:=Lib.hid (B5.out.trans (b6.mono B5.out.size))
       clear b6
       go_wp2_with fail
       go_ret
       exact ⟨rfl,B6.out⟩
theorem nring_frame (HD:DebtsProg) (HN:NetProg) (HL:Lives13) (a:Option Addr) (len cap:Nat) (zs:List Int) (cu:Int) (w:World) (h0:IsRow .u16 w a len cap zs) (hc:(Lit.int .u8 cu).wf=true) :
  Calls Try.prog 4 #[.slice a len cap,.int .u8 cu] w fun e w'=>e=.returned (.bool true)∧Below w.heap.size w w' :=
 nring_walk HN HL a len cap zs cu w h0 (In8.of_wf hc)
end Go.Proofs.Ytlbjjkbppbmihaa
namespace Go.Proofs.Ytlbjjkbppbmihaa
open Go.RowKit
structure BelowD (B:Nat) (w w':World):Prop extends Below B w w' where
 dr:w.drawn≤w'.drawn
theorem BelowD.refl (B:Nat) (w:World):BelowD B w w:=⟨Below.refl B w,Nat.le_refl _⟩
theorem BelowD.trans {B:Nat} {a b c:World} (h:BelowD B a b) (k:BelowD B b c):BelowD B a c:=⟨h.toBelow.trans k.toBelow,Nat.le_trans h.dr k.dr⟩
theorem BelowD.mono {B B':Nat} {w w':World} (h:BelowD B w w') (hb:B'≤B):BelowD B' w w':=⟨h.toBelow.mono hb,h.dr⟩
theorem BelowD.alloc {B:Nat} {a w:World} (h:BelowD B a w) (hb:B≤w.heap.size) (o:Obj):BelowD B a (w.alloc o):=⟨h.toBelow.alloc hb o,h.dr⟩
theorem BelowD.grown {w w':World} (h:BelowD w.heap.size w w'):∃ q os',w'=Go.Sort.grow (w.drewN q) os':=by
 refine ⟨w'.drawn - w.drawn,w'.heap.extract w.heap.size w'.heap.size,?_⟩
 have hd:=h.dr
 have hh:w'.heap=w.heap++w'.heap.extract w.heap.size w'.heap.size:=by
  apply Array.ext_getElem?
  intro i
  by_cases hi:i<w.heap.size
  ·rw [h.block i hi,Array.getElem?_append_left hi]
  ·rw [Array.getElem?_append_right (by omega),Array.getElem?_extract]
   by_cases hi2:i<w'.heap.size
   ·rw [if_pos (by simp; omega)]; congr 1; omega
   ·rw [if_neg (by simp; omega),Array.getElem?_eq_none (by omega)]
 obtain ⟨h0,h1,h2,h3,h4⟩:=w'
 obtain ⟨g0,g1,g2,g3,g4⟩:=w
 have e1:=h.os; have e2:=h.tape; have e3:=h.output
 simp only at hh e1 e2 e3 hd
 subst e1 e2 e3
 simp only [Go.Sort.grow,World.drewN]
 rw [← hh]
 congr 1
 omega
end Go.Proofs.Ytlbjjkbppbmihaa
namespace Go.Proofs.Ytlbjjkbppbmihaa
open Go.RowKit Go.Shelf
set_option maxHeartbeats 4000000 in
set_option maxRecDepth 100000 in
theorem ends_any (x:Fw) (w:World):Calls Try.prog 21 #[.agg #[.int .u8 x.fr,.int .u8 x.tt,.int .i64 x.am]] w fun e w'=>e=.returned (.tuple #[.int .u8 x.fr,.int .u8 x.tt])∧BelowD w.heap.size w w':=by
 go_enter Try.func21,Try.ntmps21
 go_wp2_with fail
 have K:=Blk.new w #[.int .u8 x.fr,.int .u8 x.tt,.int .i64 x.am] 54
 have B:=Lib.hid ((BelowD.refl w.heap.size w).alloc (Nat.le_refl _) (.cells #[.int .u8 x.fr,.int .u8 x.tt,.int .i64 x.am] 54))
 generalize w.alloc (.cells #[.int .u8 x.fr,.int .u8 x.tt,.int .i64 x.am] 54)=W at K B ⊢
 have d0:=K.cell 0
 have d1:=K.cell 1
 simp at d0 d1
 have hl:=K.lt
 clear K
 go_quiet (fail)
 have B2:∀ k,Hid (BelowD w.heap.size w (W.drewN k)):=fun k=>Lib.hid ⟨⟨B.out.os,B.out.tape,B.out.output,B.out.size,B.out.block⟩,Nat.le_trans B.out.dr (Nat.le_add_right _ _)⟩
 clear B
 go_wp2_with fail
 refine bodyPost_ret (v:=.tuple #[.int .u8 x.fr,.int .u8 x.tt]) (by simp [results,Try.results21,go_sem]) rfl ?_
 exact ⟨rfl,(B2 _).out⟩
set_option maxHeartbeats 4000000 in
set_option maxRecDepth 100000 in
theorem byends_any (x y:Fw) {w:World} {h:Nat} (hh:Blk w h #[.func (.func 21) #[] #[]] 59) :
  Calls Try.prog 42 #[.agg #[.int .u8 x.fr,.int .u8 x.tt,.int .i64 x.am],.agg #[.int .u8 y.fr,.int .u8 y.tt,.int .i64 y.am],.pointer (some ⟨h,0,none⟩)] w fun e w'=>e=.returned (.int .i64 (ordF x y))∧BelowD w.heap.size w w':=by
 unfold ordF
 have c1:=Lib.hid (fun w=>compare_q x.fr y.fr w)
 have c2:=Lib.hid (fun w=>compare_q x.tt y.tt w)
 have e1:=Lib.hid (fun w=>ends_any x w)
 have e2:=Lib.hid (fun w=>ends_any y w)
 have hen:∀ args w,(callFunc 21 args).run Try.prog w=.ok (.enter 21 args) w:=enters_of Try.func21 (by kernel_rfl) rfl
 generalize cmpD x.fr y.fr=p at *
 generalize cmpD x.tt y.tt=q at *
 have d0:=hh.cell 0
 simp at d0
 have hlt:=hh.lt
 have HH:=Lib.hid hh
 clear hh
 go_enter Try.func42,Try.ntmps42
 go_wp2_with fail
 have KX:=Lib.hid ((Blk.new w #[.int .u8 x.fr,.int .u8 x.tt,.int .i64 x.am] 54).alloc (.cells #[.int .u8 y.fr,.int .u8 y.tt,.int .i64 y.am] 54))
 have KY:=Lib.hid (Blk.newAt (w.alloc (.cells #[.int .u8 x.fr,.int .u8 x.tt,.int .i64 x.am] 54)) #[.int .u8 y.fr,.int .u8 y.tt,.int .i64 y.am] 54 (g:=w.heap.size + 1) (by simp))
 have B0:=Lib.hid (((BelowD.refl w.heap.size w).alloc (Nat.le_refl _) (.cells #[.int .u8 x.fr,.int .u8 x.tt,.int .i64 x.am] 54)).alloc (by simp) (.cells #[.int .u8 y.fr,.int .u8 y.tt,.int .i64 y.am] 54))
 refine (e1.out _).mono ?_
 rintro e w1 ⟨rfl,b1⟩
 have HH1:=(HH.out.below B0.out.toBelow HH.out.lt).below b1.toBelow (by have:=B0.out.size; have:=HH.out.lt; omega)
 have KY1:=KY.out.below b1.toBelow KY.out.lt
 have B1:=Lib.hid (B0.out.trans (b1.mono B0.out.size))
 clear b1 d0 hlt
 have d0:=HH1.cell 0
 have d1:=KY1.cell 0
 have d2:=KY1.cell 1
 have d3:=KY1.cell 2
 simp at d0 d1 d2 d3
 have l0:=HH1.lt
 have l1:=KY1.lt
 clear HH1 KY1
 go_wp2_with fail
 refine (e2.out _).mono ?_
 rintro e w2 ⟨rfl,b2⟩
 have B2:=Lib.hid (B1.out.trans (b2.mono B1.out.size))
 clear b2 d0 d1 d2 d3 l0 l1
 go_wp2_with fail
 refine (c1.out _).mono ?_
 rintro e w3 ⟨rfl,rfl⟩
 go_wp2_with fail
 refine (c2.out _).mono ?_
 rintro e w4 ⟨rfl,rfl⟩
 have KB:=Blk.new w4 #[.int .i64 p,.int .i64 q] 3
 have B3:=Lib.hid (B2.out.alloc B2.out.size (.cells #[.int .i64 p,.int .i64 q] 3))
 have HO:=Lib.hid (or_pair w4.heap.size 2 p q _ KB.lt (KB.cell 0) (KB.cell 1))
 clear KB
 go_wp2_with fail
 refine HO.out.mono ?_
 rintro e w5 ⟨rfl,rfl⟩
 go_wp2_with fail
 go_ret
 exact ⟨rfl,B3.out⟩
end Go.Proofs.Ytlbjjkbppbmihaa
