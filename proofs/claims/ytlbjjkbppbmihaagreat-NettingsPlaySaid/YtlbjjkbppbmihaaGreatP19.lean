/-
  Pieces of one proof, without what is not wanted: Lives13, Ref03f, Ref13, NetGo, Ref13n.
-/
import Derived.Test.YtlbjjkbppbmihaaGreatP05
import Derived.Test.YtlbjjkbppbmihaaGreatP12
import Derived.Test.YtlbjjkbppbmihaaGreatP15
import Derived.Test.YtlbjjkbppbmihaaGreatP16
import Derived.Test.YtlbjjkbppbmihaaGreatP17
import Derived.Test.YtlbjjkbppbmihaaGreatP18
set_option linter.unusedSimpArgs false
set_option linter.unusedVariables false
namespace Go.Proofs.YtlbjjkbppbmihaaGreat
open Go.RowKit
def p13:List Int:=[1,2,3]
def l13:List Ln:=[⟨1,3,6,9,4⟩,⟨2,1,6,9,5⟩,⟨3,2,6,9,3⟩]
def L13:Nat→Int:=nextD lvD (amD lvD)
def m13:List Ln:=netL l13 6 L13
theorem d13:debtsL l13 6=lvD:=by decide +kernel
theorem t13:totL l13 6=12∧sumN L13 3=3:=by decide +kernel
theorem lv13_least:IsLeast (debtsL l13 6) L13 1:=by rw [d13]; exact lvD_least.1
theorem lv13_ok:RdOk (debtsL l13 6) L13:=lv13_least.inv.ok
theorem e13 (h:LInv p13 l13):debtsL m13 6=lvL:=by
 have:=net_debts h 6 lv13_ok
 rw [d13] at this
 exact this.trans lvD_least.2
theorem u13 (h:LInv p13 l13):totL m13 6=3:=by
 have:=net_tot h 6 lv13_ok
 rw [d13] at this
 exact this.trans t13.2
theorem lv13_a:NetAns l13 6 0 0 0 13 l13:=.inr ⟨by decide,by decide,L13,1,lv13_least,.inr ⟨by decide,rfl,rfl,rfl,rfl⟩⟩
theorem lv13_b (h:LInv p13 l13):NetAns l13 6 1 9 1 0 m13:=.inr ⟨by decide,by decide,L13,1,lv13_least,.inl ⟨by decide,by
 show 9=totL l13 6 - totL m13 6
 rw [u13 h,t13.1]
 rfl,rfl,rfl,rfl⟩⟩
theorem lv13_c (h:LInv p13 l13):∃ ms,NetAns m13 6 0 0 0 0 ms:=by
 have hm:LInv p13 m13:=netL_inv h 6 L13
 have hL:IsLeast (debtsL m13 6) (amD (debtsL m13 6)) 0:=by
  rw [show debtsL m13 6=leftL (debtsL l13 6) L13 from net_debts h 6 lv13_ok]
  exact left_done (debtsL_may h 6) lv13_least
 refine ⟨_,.inr ⟨by decide,by decide,_,0,hL,.inl ⟨by decide,?_,rfl,rfl,rfl⟩⟩⟩
 have h1:=net_tot hm 6 hL.inv.ok
 have h2:=(debts_tot hm 6).1
 omega
def Lives13:Prop:=∀ w,Calls Tryz.prog 5 #[] w fun e w'=>e=.returned (.bool true)∧Below w.heap.size w w'
set_option maxHeartbeats 16000000 in
set_option maxRecDepth 100000 in
theorem lives13_any (HD:DebtsProg) (HN:NetProg):Lives13:=fun w=>by
 have HDo:=Lib.hid HD
 have HNo:=Lib.hid HN
 clear HD HN
 go_enter Tryz.func5,Tryz.ntmps5
 go_wp2_with fail
 refine (new_any w).mono ?_
 rintro e w0 ⟨G,M,rfl,h0,hG,hM,hb0⟩
 have H0:=Lib.hid h0
 have B0:=Lib.hid hb0
 have I0:=Lib.hid LInv.nil
 clear h0 hb0
 have c1:=Lib.hid (open_any H0.out I0.out.bd 1)
 rw [show openE [] 1=0 by decide,show openP [] 1=[1] by decide] at c1
 have I1:Hid (LInv [1] []):=Lib.hid (by have:=LInv.open I0.out 1; rwa [show openP [] 1=[1] by decide] at this)
 go_wp2_with fail
 refine c1.out.mono ?_
 rintro e w1 ⟨rfl,h1,k1⟩
 have H1:=Lib.hid h1
 have B1:=Lib.hid (B0.out.trans (k1.below B0.out.size (fun b hb e=>by omega)))
 clear h1 k1 c1 H0 B0 I0
 have c2:=Lib.hid (open_any H1.out I1.out.bd 2)
 rw [show openE [1] 2=0 by decide,show openP [1] 2=[1,2] by decide] at c2
 have I2:Hid (LInv [1,2] []):=Lib.hid (by have:=LInv.open I1.out 2; rwa [show openP [1] 2=[1,2] by decide] at this)
 go_wp2_with fail
 refine c2.out.mono ?_
 rintro e w2 ⟨rfl,h2,k2⟩
 have H2:=Lib.hid h2
 have B2:=Lib.hid (B1.out.trans (k2.below B1.out.size (fun b hb e=>by omega)))
 clear h2 k2 c2 H1 B1 I1
 have c3:=Lib.hid (open_any H2.out I2.out.bd 3)
 rw [show openE [1,2] 3=0 by decide,show openP [1,2] 3=[1,2,3] by decide] at c3
 have I3:Hid (LInv [1,2,3] []):=Lib.hid (by have:=LInv.open I2.out 3; rwa [show openP [1,2] 3=[1,2,3] by decide] at this)
 go_wp2_with fail
 refine c3.out.mono ?_
 rintro e w3 ⟨rfl,h3,k3⟩
 have H3:=Lib.hid h3
 have B3:=Lib.hid (B2.out.trans (k3.below B2.out.size (fun b hb e=>by omega)))
 clear h3 k3 c3 H2 B2 I2
 have c4:=Lib.hid (ptrust_any (a:=2) (b:=1) (c:=6) (n:=9) H3.out I3.out (by unfold In8; decide) (by unfold In8; decide) (by unfold In8; decide))
 rw [show trustE [1,2,3] [] 2 1 6 9=0 by decide,show trustL [1,2,3] [] 2 1 6 9=[⟨2,1,6,9,0⟩] by decide] at c4
 have I4:Hid (LInv [1,2,3] [⟨2,1,6,9,0⟩]):=Lib.hid (by have:=LInv.trust I3.out 2 1 6 9; rwa [show trustL [1,2,3] [] 2 1 6 9=[⟨2,1,6,9,0⟩] by decide] at this)
 go_wp2_with fail
 refine c4.out.mono ?_
 rintro e w4 ⟨rfl,h4,k4⟩
 have H4:=Lib.hid h4
 have B4:=Lib.hid (B3.out.trans (k4.below B3.out.size (fun b hb e=>by omega)))
 clear h4 k4 c4 H3 B3 I3
 have c5:=Lib.hid (ptrust_any (a:=3) (b:=2) (c:=6) (n:=9) H4.out I4.out (by unfold In8; decide) (by unfold In8; decide) (by unfold In8; decide))
 rw [show trustE [1,2,3] [⟨2,1,6,9,0⟩] 3 2 6 9=0 by decide,show trustL [1,2,3] [⟨2,1,6,9,0⟩] 3 2 6 9=[⟨2,1,6,9,0⟩,⟨3,2,6,9,0⟩] by decide] at c5
 have I5:Hid (LInv [1,2,3] [⟨2,1,6,9,0⟩,⟨3,2,6,9,0⟩]):=Lib.hid (by have:=LInv.trust I4.out 3 2 6 9; rwa [show trustL [1,2,3] [⟨2,1,6,9,0⟩] 3 2 6 9=[⟨2,1,6,9,0⟩,⟨3,2,6,9,0⟩] by decide] at this)
 go_wp2_with fail
 refine c5.out.mono ?_
 rintro e w5 ⟨rfl,h5,k5⟩
 have H5:=Lib.hid h5
 have B5:=Lib.hid (B4.out.trans (k5.below B4.out.size (fun b hb e=>by omega)))
 clear h5 k5 c5 H4 B4 I4
 have c6:=Lib.hid (ptrust_any (a:=1) (b:=3) (c:=6) (n:=9) H5.out I5.out (by unfold In8; decide) (by unfold In8; decide) (by unfold In8; decide))
 rw [show trustE [1,2,3] [⟨2,1,6,9,0⟩,⟨3,2,6,9,0⟩] 1 3 6 9=0 by decide,show trustL [1,2,3] [⟨2,1,6,9,0⟩,⟨3,2,6,9,0⟩] 1 3 6 9=[⟨1,3,6,9,0⟩,⟨2,1,6,9,0⟩,⟨3,2,6,9,0⟩] by decide] at c6
 have I6:Hid (LInv [1,2,3] [⟨1,3,6,9,0⟩,⟨2,1,6,9,0⟩,⟨3,2,6,9,0⟩]):=Lib.hid (by have:=LInv.trust I5.out 1 3 6 9; rwa [show trustL [1,2,3] [⟨2,1,6,9,0⟩,⟨3,2,6,9,0⟩] 1 3 6 9=[⟨1,3,6,9,0⟩,⟨2,1,6,9,0⟩,⟨3,2,6,9,0⟩] by decide] at this)
 go_wp2_with fail
 refine c6.out.mono ?_
 rintro e w6 ⟨rfl,h6,k6⟩
 have H6:=Lib.hid h6
 have B6:=Lib.hid (B5.out.trans (k6.below B5.out.size (fun b hb e=>by omega)))
 clear h6 k6 c6 H5 B5 I5
 have c7:=Lib.hid (ppush_any (a:=1) (b:=2) (c:=6) (n:=5) H6.out I6.out (by unfold In8; decide) (by unfold In8; decide) (by unfold In8; decide) (by unfold In64; decide))
 rw [show pushE [1,2,3] [⟨1,3,6,9,0⟩,⟨2,1,6,9,0⟩,⟨3,2,6,9,0⟩] 1 2 6 5=0 by decide,show pushL [1,2,3] [⟨1,3,6,9,0⟩,⟨2,1,6,9,0⟩,⟨3,2,6,9,0⟩] 1 2 6 5=[⟨1,3,6,9,0⟩,⟨2,1,6,9,5⟩,⟨3,2,6,9,0⟩] by decide] at c7
 have I7:Hid (LInv [1,2,3] [⟨1,3,6,9,0⟩,⟨2,1,6,9,5⟩,⟨3,2,6,9,0⟩]):=Lib.hid (by have:=LInv.push I6.out 1 2 6 5; rwa [show pushL [1,2,3] [⟨1,3,6,9,0⟩,⟨2,1,6,9,0⟩,⟨3,2,6,9,0⟩] 1 2 6 5=[⟨1,3,6,9,0⟩,⟨2,1,6,9,5⟩,⟨3,2,6,9,0⟩] by decide] at this)
 go_wp2_with fail
 refine c7.out.mono ?_
 rintro e w7 ⟨rfl,h7,k7⟩
 have H7:=Lib.hid h7
 have B7:=Lib.hid (B6.out.trans (k7.below B6.out.size (fun b hb e=>by omega)))
 clear h7 k7 c7 H6 B6 I6
 have c8:=Lib.hid (ppush_any (a:=2) (b:=3) (c:=6) (n:=3) H7.out I7.out (by unfold In8; decide) (by unfold In8; decide) (by unfold In8; decide) (by unfold In64; decide))
 rw [show pushE [1,2,3] [⟨1,3,6,9,0⟩,⟨2,1,6,9,5⟩,⟨3,2,6,9,0⟩] 2 3 6 3=0 by decide,show pushL [1,2,3] [⟨1,3,6,9,0⟩,⟨2,1,6,9,5⟩,⟨3,2,6,9,0⟩] 2 3 6 3=[⟨1,3,6,9,0⟩,⟨2,1,6,9,5⟩,⟨3,2,6,9,3⟩] by decide] at c8
 have I8:Hid (LInv [1,2,3] [⟨1,3,6,9,0⟩,⟨2,1,6,9,5⟩,⟨3,2,6,9,3⟩]):=Lib.hid (by have:=LInv.push I7.out 2 3 6 3; rwa [show pushL [1,2,3] [⟨1,3,6,9,0⟩,⟨2,1,6,9,5⟩,⟨3,2,6,9,0⟩] 2 3 6 3=[⟨1,3,6,9,0⟩,⟨2,1,6,9,5⟩,⟨3,2,6,9,3⟩] by decide] at this)
 go_wp2_with fail
 refine c8.out.mono ?_
 rintro e w8 ⟨rfl,h8,k8⟩
 have H8:=Lib.hid h8
 have B8:=Lib.hid (B7.out.trans (k8.below B7.out.size (fun b hb e=>by omega)))
 clear h8 k8 c8 H7 B7 I7
 have c9:=Lib.hid (ppush_any (a:=3) (b:=1) (c:=6) (n:=4) H8.out I8.out (by unfold In8; decide) (by unfold In8; decide) (by unfold In8; decide) (by unfold In64; decide))
 rw [show pushE [1,2,3] [⟨1,3,6,9,0⟩,⟨2,1,6,9,5⟩,⟨3,2,6,9,3⟩] 3 1 6 4=0 by decide,show pushL [1,2,3] [⟨1,3,6,9,0⟩,⟨2,1,6,9,5⟩,⟨3,2,6,9,3⟩] 3 1 6 4=[⟨1,3,6,9,4⟩,⟨2,1,6,9,5⟩,⟨3,2,6,9,3⟩] by decide] at c9
 have I9:Hid (LInv [1,2,3] [⟨1,3,6,9,4⟩,⟨2,1,6,9,5⟩,⟨3,2,6,9,3⟩]):=Lib.hid (by have:=LInv.push I8.out 3 1 6 4; rwa [show pushL [1,2,3] [⟨1,3,6,9,0⟩,⟨2,1,6,9,5⟩,⟨3,2,6,9,3⟩] 3 1 6 4=[⟨1,3,6,9,4⟩,⟨2,1,6,9,5⟩,⟨3,2,6,9,3⟩] by decide] at this)
 go_wp2_with fail
 refine c9.out.mono ?_
 rintro e w9 ⟨rfl,h9,k9⟩
 have H9:=Lib.hid h9
 have B9:=Lib.hid (B8.out.trans (k9.below B8.out.size (fun b hb e=>by omega)))
 clear h9 k9 c9 H8 B8 I8
 have J:Hid (LInv p13 l13):=Lib.hid I9.out
 have Jm:Hid (LInv p13 m13):=Lib.hid (netL_inv J.out 6 L13)
 have HX:Hid (LedM w9 G M p13 l13):=Lib.hid H9.out
 have cD:=Lib.hid (HDo.out.at_ HX.out J.out 6 (by unfold In8; decide))
 rw [d13] at cD
 clear H9 I9
 go_wp2_with fail
 refine cD.out.mono ?_
 rintro e v0 ⟨da,rfl,ra,b0⟩
 obtain ⟨aoa,rfl,_⟩:=rowed_shape ra
 have RA0:=Lib.hid ra
 have HM0:M<v0.heap.size:=Nat.lt_of_lt_of_le HX.out.map.lt b0.size
 have HMa:M<w9.heap.size:=HX.out.map.lt
 have X0:=Lib.hid (HX.out.below b0)
 have Y0:=Lib.hid (B9.out.trans (b0.mono B9.out.size))
 have cN:=Lib.hid (HNo.out.at_ X0.out J.out 6 0 (by unfold In8; decide) (by unfold In64; decide))
 clear ra b0 cD HX B9
 go_wp2_with fail
 refine cN.out.mono ?_
 rintro e v1 ⟨gone,many,er,ms,ha,rfl,h1,k1⟩
 obtain ⟨rfl,rfl,rfl,rfl⟩:=ha.eq lv13_a
 have RA1:=Lib.hid (RA0.out.keep k1 (fun b hb e=>by have:=rowed_own RA0.out hb; omega))
 have X1:=Lib.hid h1
 have Y1:=Lib.hid (Y0.out.trans (k1.below Y0.out.size (fun b hb e=>by omega)))
 have cN2:=Lib.hid (HNo.out.at_ X1.out J.out 6 1 (by unfold In8; decide) (by unfold In64; decide))
 have S1:=k1.size
 clear ha h1 k1 cN X0 Y0 RA0
 go_wp2_with fail
 refine cN2.out.mono ?_
 rintro e v2 ⟨gone,many,er,ms,ha,rfl,h2,k2⟩
 obtain ⟨rfl,rfl,rfl,rfl⟩:=ha.eq (lv13_b J.out)
 have RA2:=Lib.hid (RA1.out.keep k2 (fun b hb e=>by have:=rowed_own RA1.out hb; omega))
 have X2:=Lib.hid h2
 have Y2:=Lib.hid (Y1.out.trans (k2.below Y1.out.size (fun b hb e=>by omega)))
 have cD2:=Lib.hid (HDo.out.at_ X2.out Jm.out 6 (by unfold In8; decide))
 rw [e13 J.out] at cD2
 have S2:=k2.size
 clear ha h2 k2 cN2 X1 Y1 RA1
 go_wp2_with fail
 refine cD2.out.mono ?_
 rintro e v3 ⟨dbv,rfl,rb,b3⟩
 obtain ⟨aob,rfl,_⟩:=rowed_shape rb
 have RB3:=Lib.hid rb
 have RA3:=Lib.hid (RA2.out.below b3)
 have X3:=Lib.hid (X2.out.below b3)
 have Y3:=Lib.hid (Y2.out.trans (b3.mono Y2.out.size))
 have cN3:=Lib.hid (HNo.out.at_ X3.out Jm.out 6 0 (by unfold In8; decide) (by unfold In64; decide))
 have HMb:M<v2.heap.size:=by omega
 clear rb b3 cD2 X2 Y2 RA2
 go_wp2_with fail
 refine cN3.out.mono ?_
 rintro e v4 ⟨gone,many,er,ms,ha,rfl,_,k4⟩
 obtain ⟨mz,hz⟩:=lv13_c J.out
 obtain ⟨rfl,rfl,rfl,rfl⟩:=ha.eq hz
 have RA4:=Lib.hid (RA3.out.keep k4 (fun b hb e=>by have:=rowed_own RA3.out hb; omega))
 have RB4:=Lib.hid (RB3.out.keep k4 (fun b hb e=>by have:=rowed_own RB3.out hb; omega))
 have Y4:=Lib.hid (Y3.out.trans (k4.below Y3.out.size (fun b hb e=>by omega)))
 clear ha hz k4 cN3 X3 Y3 RA3 RB3
 have X5:=Lib.hid ((Below.refl v4.heap.size v4).alloc (Nat.le_refl _) (.cells #[.int .u8 1,.int .u8 2,.int .i64 5,.int .u8 2,.int .u8 3,.int .i64 3,.int .u8 3,.int .u8 1,.int .i64 4] 62))
 have RL:=Lib.hid (reads_blk (cap:=3) (xs:=fwCells lvD) (n:=3) (size:=3) (Blk.new v4 #[.int .u8 1,.int .u8 2,.int .i64 5,.int .u8 2,.int .u8 3,.int .i64 3,.int .u8 3,.int .u8 1,.int .i64 4] 62) (by decide) (by decide) (fun j hj=>by rw [← Array.getElem?_toList]; rfl))
 have S3:=Lib.hid (SameFlows_any (la:=lvD) (lb:=lvD) ((RA4.out.below X5.out).reads (by decide)) RL.out)
 rw [decide_eq_true rfl] at S3
 clear RL RA4
 go_wp2_with fail
 refine S3.out.mono ?_
 rintro e v5 ⟨rfl,b5⟩
 have X6:=Lib.hid (X5.out.trans (b5.mono X5.out.size))
 have Y5:=Lib.hid (Y4.out.trans (X6.out.mono Y4.out.size))
 have RB5:=Lib.hid (RB4.out.below X6.out)
 have X7:=Lib.hid ((Below.refl v5.heap.size v5).alloc (Nat.le_refl _) (.cells #[.int .u8 1,.int .u8 2,.int .i64 2,.int .u8 3,.int .u8 1,.int .i64 1] 62))
 have RL2:=Lib.hid (reads_blk (cap:=2) (xs:=fwCells lvL) (n:=2) (size:=3) (Blk.new v5 #[.int .u8 1,.int .u8 2,.int .i64 2,.int .u8 3,.int .u8 1,.int .i64 1] 62) (by decide) (by decide) (fun j hj=>by rw [← Array.getElem?_toList]; rfl))
 have S4:=Lib.hid (SameFlows_any (la:=lvL) (lb:=lvL) ((RB5.out.below X7.out).reads (by decide)) RL2.out)
 rw [decide_eq_true rfl] at S4
 clear b5 S3 RL2 RB4 RB5 X5 Y4
 go_wp2_with fail
 refine S4.out.mono ?_
 rintro e v6 ⟨rfl,b6⟩
 have Y6:=Lib.hid (Y5.out.trans ((X7.out.trans (b6.mono X7.out.size)).mono Y5.out.size))
 clear b6 S4 X7 Y5
 go_wp2_with fail
 go_ret
 exact ⟨rfl,Y6.out⟩
end Go.Proofs.YtlbjjkbppbmihaaGreat
namespace Go.Proofs.YtlbjjkbppbmihaaGreat
open Go.RowKit
set_option maxHeartbeats 4000000 in
set_option maxRecDepth 100000 in
theorem rtotal_any {w:World} {base g:Nat} {ps:List Int} {ls:List Ln} {vp vl:Value} (h:RefL w base g ps ls vp vl) (hgood:∀ y ∈ ls,y.Good) (hlen:ls.length≤100) (c:Int) :
  Calls Tryz.prog 45 #[.pointer (some ⟨g,0,none⟩),.int .u8 c] w fun e w'=>e=.returned (.int .i64 (totL ls c))∧w'=w:=by
 have d0:=h.blk.cell 1
 simp at d0
 obtain ⟨ao,cap,rfl,hc1,hc2,hc3,hc4⟩:=owns_open h.l
 have HC:=Lib.hid hc4
 have HG:=Lib.hid hgood
 have hlt:=h.blk.lt
 unfold maxLen at hc2
 clear hc3 hc4 h hgood
 go_enter Tryz.func45,Tryz.ntmps45
 go_wp2
 go_loop [5,6] (fun v i=>∃ k:Nat,k≤ls.length∧i=.int .i64 k∧v=.int .i64 ((ls.take k).map (totOf c)).sum) (fun _ i=>ls.length - (intOf i).toNat)
 case atStart=>exact ⟨0,Nat.zero_le _,rfl,rfl⟩
 case round =>
  obtain ⟨k,hk,rfl,rfl⟩:=hrel
  have hbd:=sum_le (totOf c) 1099511627776 (ls.take k) (fun x hx=>totOf_bd (HG.out x (List.mem_of_mem_take hx)) c)
  have hlk:(ls.take k).length≤100:=Nat.le_trans (List.length_take_le _ _) (by omega)
  have hb1:-109951162777600≤((ls.take k).map (totOf c)).sum:=by omega
  have hb2:((ls.take k).map (totOf c)).sum≤109951162777600:=by omega
  clear hbd hlk
  by_cases hkl:k<ls.length
  ·have HN:=Lib.hid (sum_next (totOf c) ls k hkl)
   obtain ⟨b,rfl,_,hb3,hcell,_⟩:=HC.out (by omega)
   obtain ⟨e0,e1,e2,e3,e4⟩:=ln_cells hcell hkl
   have hgd:=HG.out ls[k] (List.getElem_mem hkl)
   have hdb:=hgd.db; have hli:=hgd.li
   clear hcell hgd
   generalize ls[k]=y at *
   generalize ((ls.take k).map (totOf c)).sum=s at *
   have hs:((y.cu==c)=false∧totOf c y=0)∨((y.cu==c)=true∧totOf c y=y.db):=by
    unfold totOf
    by_cases h1:y.cu=c <;> simp [h1]
   rcases hs with ⟨h1,hv⟩ | ⟨h1,hv⟩
   ·have V:=Lib.hid hv
    clear hv
    go_wp2
    go_round
    case rel=>exact ⟨k + 1,by omega,by go_num,by rw [HN.out,V.out] <;> first | done | go_num | (congr 1; omega)⟩
    case measure=>simp [intOf]; omega
   ·have V:=Lib.hid hv
    clear hv
    go_wp2
    go_round
    case rel=>exact ⟨k + 1,by omega,by go_num,by rw [HN.out,V.out] <;> first | done | go_num | (congr 1; omega)⟩
    case measure=>simp [intOf]; omega
  ·have hke:ls.take k=ls:=List.take_of_length_le (by omega)
   rw [hke]
   clear hke hb1 hb2
   go_wp2
   go_ret
   exact ⟨rfl,rfl⟩
end Go.Proofs.YtlbjjkbppbmihaaGreat
namespace Go.Proofs.YtlbjjkbppbmihaaGreat
open Go.RowKit
def DbAt (w:World) (l:List Fw) (o:Value) (wr:World):Prop:=wr.ownsRow w.heap.size 62 3 o l.length (fwCells l)∧Below w.heap.size w wr
def DbPost (w:World) (l:List Fw) (e:Ending) (w':World):Prop:=∃ v,e=.returned v∧DbAt w l v w'
def DbO (w:World) (ls:List Ln) (c:Int) (o i:Value) (wr:World):Prop:=∃ (p:Nat) (P:Int),Hid (P=(p:Int) + 1)∧1≤P∧P≤17∧i=.int .u8 P∧DbAt w (debtsF ls c p) o wr
def DbI (w:World) (ls:List Ln) (c:Int) (p:Nat) (o i:Value) (wr:World):Prop:=∃ (q:Nat) (Q:Int),Hid (Q=(q:Int) + 1)∧1≤Q∧Q≤17∧i=.int .u8 Q∧DbAt w (prefD ls c p q) o wr
set_option maxHeartbeats 16000000 in
set_option maxRecDepth 100000 in
theorem rdebts_any {w:World} {base g:Nat} {ps:List Int} {ls:List Ln} {vp vl:Value} (h:RefL w base g ps ls vp vl) (c:Int) :
  Calls Tryz.prog 11 #[.pointer (some ⟨g,0,none⟩),.int .u8 c] w (DbPost w (debtsL ls c)):=by
 have CL:Hid (∀ w',Below w.heap.size w w'→∀ p q:Int,Calls Tryz.prog 40 #[.pointer (some ⟨g,0,none⟩),.int .u8 p,.int .u8 q,.int .u8 c] w' fun e w''=>e=.returned (.tuple #[.agg #[.int .u8 (lnAt ls p q c).cr,.int .u8 (lnAt ls p q c).de,.int .u8 (lnAt ls p q c).cu,.int .i64 (lnAt ls p q c).li,.int .i64 (lnAt ls p q c).db],.bool (lineL ls p q c).isSome])∧Below w'.heap.size w' w'') :=
  Lib.hid (fun w' k p q=>by
   have:=rline_any (h.below k) p q c
   rw [lineV_at] at this
   exact this)
 have R0:DbAt w (debtsF ls c 0) (.slice none 0 0) w:=by rw [prefD_none]; exact ⟨World.ownsRow_nil _ _ _ _,Below.refl _ _⟩
 have HR0:=Lib.hid R0
 have HE:=Lib.hid (prefD_end ls c)
 clear h R0
 go_enter Tryz.func11,Tryz.ntmps11
 go_wp2_with fail
 go_loopw [5,6,7,8,9] (fun o i _ _ _ wr=>DbO w ls c o i wr) (fun _ i _ _ _ _=>17 - (intOf i).toNat)
 case atStart=>exact ⟨0,1,Lib.hid rfl,by omega,by omega,rfl,HR0.out⟩
 case round =>
  clear HR0
  obtain ⟨p,P,hP,hP1,hP2,rfl,hRR⟩:=hrel
  have RR:=Lib.hid hRR
  clear hRR
  by_cases hpl:P≤16
  ·rw [← prefD_zero] at RR
   go_wp2_with fail
   go_loopw [5,7,8,9] (fun o i _ _ wr=>DbI w ls c p o i wr) (fun _ i _ _ _=>17 - (intOf i).toNat)
   case atStart=>exact ⟨0,1,Lib.hid rfl,by omega,by omega,rfl,RR.out⟩
   case round =>
    clear RR
    obtain ⟨q,Q,hQ,hQ1,hQ2,rfl,hRR⟩:=hrel
    by_cases hql:Q≤16
    ·have hq16:q<16:=by have:=hQ.out; omega
     have hp16:p<16:=by have:=hP.out; omega
     have NX:=Lib.hid (prefD_next ls c p q)
     rw [show ((p + 1:Nat):Int)=P by have:=hP.out; omega,show ((q + 1:Nat):Int)=Q by have:=hQ.out; omega,show owedL ls c P Q=(lnAt ls Q P c).db from rfl] at NX
     have hlo:=prefD_len ls c p q
     obtain ⟨hG,hB⟩:=hRR
     have HG:=Lib.hid hG
     have HB:=Lib.hid hB
     have C:=Lib.hid (CL.out wr hB Q P)
     have hl2:(prefD ls c p q).length≤100000:=by omega
     have hz:(lineL ls Q P c).isSome=false→(lnAt ls Q P c).db=0:=fun e=>by
      rw [lnAt_none (by cases hh:lineL ls Q P c with | none=>rfl | some y=>rw [hh] at e; cases e)]
      rfl
     generalize prefD ls c p q=out at *
     generalize lnAt ls Q P c=x at *
     generalize (lineL ls Q P c).isSome=is at *
     clear hG hB hlo
     go_wp2_with fail
     refine C.out.mono ?_
     rintro e w4 ⟨rfl,b4⟩
     have HG4:=Lib.hid (owns_below HG.out b4)
     have HB4:=Lib.hid (HB.out.trans (b4.mono HB.out.size))
     clear b4 HG HB C
     cases is with
     | false =>
      have hz0:¬ 0<x.db:=by rw [hz rfl]; omega
      rw [if_neg hz0,List.append_nil] at NX
      clear hz hz0
      go_wp2_with fail
      exact ⟨⟨q + 1,Q + 1,Lib.hid (by have:=hQ.out; omega),by omega,by omega,by go_num,by rw [NX.out]; exact ⟨HG4.out.alloc _,HB4.out.alloc HB4.out.size _⟩⟩,by simp [intOf]; omega⟩
     | true =>
      clear hz
      by_cases hp:0<x.db
      ·rw [if_pos hp] at NX
       have q3:decide (0<x.db)=true:=by simpa using hp
       clear hp
       have HS4:=HB4.out.size
       go_wp2_with (at_builtin; refine wpList_append_fw _ rfl (.tmp 32) (.tmp 38) rfl w.heap.size _ out rfl ((HG4.out.alloc _).alloc _) (w4.heap.size + 1) 1 (⟨P,Q,x.db⟩:Fw) (by simp [go_sem]) (Blk.newAt _ _ _ (by simp)) hl2 (by simp; omega) ?_)
       intro v3 w3 hown3 hgr3
       have O3:=Lib.hid (show w3.ownsRow w.heap.size 62 3 v3 (out++[(⟨P,Q,x.db⟩:Fw)]).length (fwCells (out++[(⟨P,Q,x.db⟩:Fw)])) by simpa using hown3)
       have B3:=Lib.hid (((HB4.out.alloc HS4 _).alloc (by simp; omega) _).grown hgr3 (by simp; omega) (fun k hk=>(owns_type HG4.out hk).1))
       clear hown3 hgr3 HG4 HB4
       go_wp2_with fail
       exact ⟨⟨q + 1,Q + 1,Lib.hid (by have:=hQ.out; omega),by omega,by omega,by go_num,by rw [NX.out]; exact ⟨O3.out,B3.out⟩⟩,by simp [intOf]; omega⟩
      ·rw [if_neg hp,List.append_nil] at NX
       have q3:decide (0<x.db)=false:=by simpa using hp
       clear hp
       go_wp2_with fail
       exact ⟨⟨q + 1,Q + 1,Lib.hid (by have:=hQ.out; omega),by omega,by omega,by go_num,by rw [NX.out]; exact ⟨HG4.out.alloc _,HB4.out.alloc HB4.out.size _⟩⟩,by simp [intOf]; omega⟩
    ·have hq17:Q=17:=by omega
     subst hq17
     have hq16:q=16:=by have:=hQ.out; omega
     subst hq16
     rw [prefD_row] at hRR
     have RR:=Lib.hid hRR
     clear hRR
     go_wp2_with fail
     exact ⟨⟨p + 1,P + 1,Lib.hid (by have:=hP.out; omega),by omega,by omega,by go_num,RR.out⟩,by simp [intOf]; omega⟩
  ·have hp17:P=17:=by omega
   subst hp17
   have hp16:p=16:=by have:=hP.out; omega
   subst hp16
   rw [HE.out] at RR
   obtain ⟨hG,hB⟩:=RR.out
   have HG:=Lib.hid hG
   have HB:=Lib.hid hB
   clear hG hB RR
   go_wp2_with fail
   go_ret
   exact ⟨_,rfl,HG.out,HB.out⟩
end Go.Proofs.YtlbjjkbppbmihaaGreat
namespace Go.Proofs.YtlbjjkbppbmihaaGreat
open Go.RowKit
theorem tot_bd {ps:List Int} {ls:List Ln} (h:LInv ps ls) (c:Int):totL ls c≤70368744177664:=by
 have h1:=sum_le (totOf c) 1099511627776 ls (fun x hx=>totOf_bd (h.inv.good x hx) c)
 have:=h.len
 unfold totL
 omega
theorem net_lims {ps:List Int} {ls:List Ln} (h:LInv ps ls) (c:Int) {L:Nat→Int} (hL:RdOk (debtsL ls c) L):limL (netL ls c L)=limL ls:=by
 have N:=net_is h c hL
 have iv:=(netL_inv h c L).inv
 have f:∀ a b q,lineL (netL ls c L) a b q=lineL ls a b q∨∃ d,lineL (netL ls c L) a b q=(lineL ls a b q).map fun x=>x.owe d:=fun a b q=>by
  by_cases hp:∃ i,i<(debtsL ls c).length∧q=c∧(dbt (debtsL ls c) i).tt=a∧(dbt (debtsL ls c) i).fr=b
  ·obtain ⟨i,hi,rfl,rfl,rfl⟩:=hp
   exact .inr ⟨_,N.here i hi⟩
  ·exact .inl (N.else_ a b q (fun i hi e=>hp ⟨i,hi,e⟩))
 have hs:∀ {m:List Ln},m.Pairwise (fun x y=>x.rank<y.rank)→(limL m).Pairwise (fun x y=>x.rank<y.rank):=fun {m} hm=>by
  unfold limL
  rw [List.pairwise_map]
  exact hm
 refine sorted_ext _ _ (hs iv.sorted) (hs h.inv.sorted) fun z=>?_
 unfold limL
 rw [List.mem_map,List.mem_map]
 constructor
 ·rintro ⟨y,hy,rfl⟩
  have hl:=(line_iff iv y.cr y.de y.cu y).2 ⟨hy,rfl,rfl,rfl⟩
  rcases f y.cr y.de y.cu with e | ⟨d,e⟩
  ·rw [e] at hl
   exact ⟨y,(lineL_mem hl).1,rfl⟩
  ·rw [e] at hl
   obtain ⟨x,hx,e2⟩:=Option.map_eq_some_iff.1 hl
   exact ⟨x,(lineL_mem hx).1,by rw [← e2]; rfl⟩
 ·rintro ⟨x,hx,rfl⟩
  have hl:=(line_iff h.inv x.cr x.de x.cu x).2 ⟨hx,rfl,rfl,rfl⟩
  rcases f x.cr x.de x.cu with e | ⟨d,e⟩
  ·rw [hl] at e
   exact ⟨x,(lineL_mem e).1,rfl⟩
  ·rw [hl] at e
   exact ⟨_,(lineL_mem e).1,rfl⟩
structure NetGo (ps:List Int) (ls:List Ln) (c:Int) (L:Nat→Int) (k:Nat):Prop where
 least:IsLeast (debtsL ls c) L k
 tot:sumN (amD (debtsL ls c)) (debtsL ls c).length=totL ls c
 left:sumN (amD (debtsL (netL ls c L) c)) (debtsL (netL ls c L) c).length=totL (netL ls c L) c
 lo:0≤totL (netL ls c L) c
 hi:totL ls c≤70368744177664
 sum:(k:Int)≤totL ls c - totL (netL ls c L) c
 fair:FairI (debtsL (netL ls c L) c) (debtsL ls c)
 few:∃ far,LeastI far (debtsL (netL ls c L) c) (debtsL ls c)
 lim:limL (netL ls c L)=limL ls
 pos:∀ p q,posL (netL ls c L) p q=posL ls p q
 else_:∀ q,q≠c→debtsL (netL ls c L) q=debtsL ls q
theorem sumN_nn {g:Nat→Int} {n:Nat} (h:∀ i,i<n→0≤g i):0≤sumN g n:=by
 induction n with
 | zero=>exact Int.le_refl _
 | succ n ih =>
  have h1:=ih (fun i hi=>h i (by omega))
  have h2:=h n (by omega)
  show 0≤sumN g n + g n
  omega
theorem net_go {ps:List Int} {ls:List Ln} (h:LInv ps ls) (c:Int) {L:Nat→Int} {k:Nat} (hL:IsLeast (debtsL ls c) L k):NetGo ps ls c L k:=by
 have ok:=hL.inv.ok
 have may:=debtsL_may h c
 have len:=debts_len h c
 have h64:=Nat.le_trans len (by decide:240≤240)
 have eD:=net_debts h c ok
 have eT:=net_tot h c ok
 have dt:=(debts_tot h c).1
 have ds:=hL.inv.sum
 have bd:=sumN_bd (g:=amD (debtsL ls c)) (B:=1099511627776) (debtsL ls c).length (fun i hi=>by
  have:=(may.ok i hi).2.2.2
  unfold amD
  omega)
 have tb:=tot_bd h c
 refine ⟨hL,dt,(debts_tot (netL_inv h c L) c).1,?_,tb,by omega,by rw [eD]; exact left_fair may len hL,by rw [eD]; exact left_least may len hL,net_lims h c ok,net_pos h c ok hL.inv.pos,fun q hq=>net_else h c ok hq⟩
 rw [eT]
 exact sumN_nn ok.lo
end Go.Proofs.YtlbjjkbppbmihaaGreat
namespace Go.Proofs.YtlbjjkbppbmihaaGreat
open Go.RowKit
theorem DebtsBy.of {w:World} {base g:Nat} {ps:List Int} {ls:List Ln} {vp vl:Value} (h:RefL w base g ps ls vp vl) {ao:Option Addr} {l:List Fw} (hd:DebtsIn w ao l):DebtsBy g w ao l:=fun h0=>by
 obtain ⟨b,off,h1,h2,h3⟩:=hd h0
 refine ⟨b,off,h1,h2,fun e=>?_,h3⟩
 subst e
 obtain ⟨a1,_⟩:=h3 0 h0
 obtain ⟨_,_,rfl,_⟩:=owns_open h.p
 obtain ⟨_,_,rfl,_⟩:=owns_open h.l
 rw [h.blk.cell] at a1
 have hc:off=0∨off=1∨2≤off:=by omega
 rcases hc with rfl | rfl | hc
 ·simp at a1
 ·simp at a1
 ·rw [Array.getElem?_eq_none (by simp; omega)] at a1
  cases a1
def RLq (l:List Fw) (q:Int) (w:World) (e:Ending) (w':World):Prop:=Below w.heap.size w w' ∧
 ((¬ (MayD l∧0≤q)∧e=.returned (.tuple #[.slice none 0 0,.int .i64 0,.int .i64 1])) ∨
 (MayD l∧0≤q∧∃ L k,IsLeast l L k∧(((k:Int)≤q∧∃ v,e=.returned (.tuple #[v,.int .i64 k,.int .i64 0])∧Reads w' v 3 (leftL l L).length (fwCells (leftL l L))) ∨
  (q<(k:Int)∧e=.returned (.tuple #[.slice none 0 0,.int .i64 0,.int .i64 13])))))
structure RLeastProg:Prop where
 at_:∀ (w:World) (ao:Option Addr) (cap:Nat) (l:List Fw),DebtsIn w ao l→DebtsFit l→l.length≤240→∀ q:Int,
 Calls Tryz.prog 46 #[.slice ao l.length cap,.int .i64 q] w (RLq l q w)
def RNetPost (w:World) (base g:Nat) (ps:List Int) (ls:List Ln) (vp:Value) (c q:Int) (e:Ending) (w':World):Prop :=
 ∃ gone many er ms,NetAns ls c q gone many er ms∧e=.returned (.tuple #[.int .i64 gone,.int .i64 many,.int .i64 er])∧(∃ vl',RefL w' base g ps ms vp vl')∧Keep (·=g) w w'
def NtAt (W:World) (base g:Nat) (ps:List Int) (ls:List Ln) (vp:Value) (c:Int) (D:List Fw) (L:Nat→Int) (i:Value) (wr:World):Prop :=
 ∃ k:Nat,k≤D.length∧i=.int .i64 k∧(∃ vl',RefL wr base g ps (netTo ls c D L k) vp vl')∧Keep (·=g) W wr
def NtI (W:World) (T:List Fw) (fr tt am:Int) (n i:Value) (wr:World):Prop :=
 ∃ m:Nat,m≤T.length∧i=.int .i64 m∧n=.int .i64 (am - fitFN fr tt T m)∧Below W.heap.size W wr
set_option maxHeartbeats 32000000 in
set_option maxRecDepth 100000 in
theorem rnet_any (HR:RLeastProg) {w:World} {base g:Nat} {ps:List Int} {ls:List Ln} {vp vl:Value} {c q:Int} (h:RefL w base g ps ls vp vl) (hI:LInv ps ls) (hc:In8 c) (hq:In64 q) :
  Calls Tryz.prog 14 #[.pointer (some ⟨g,0,none⟩),.int .u8 c,.int .i64 q] w (RNetPost w base g ps ls vp c q):=by
 have H:=Lib.hid h
 have II:=Lib.hid hI
 have HRR:=Lib.hid HR
 have hg:=h.blk.lt
 clear h hI HR
 by_cases h1:c<1
 ·have q1:decide (c<1)=true:=by simpa using h1
  go_enter Tryz.func14,Tryz.ntmps14
  go_wp2_with fail
  refine bodyPost_ret (v:=.tuple #[.int .i64 0,.int .i64 0,.int .i64 1]) (by simp [results,Tryz.results14,go_sem]) rfl ?_
  exact ⟨0,0,1,ls,.inl ⟨by omega,rfl,rfl,rfl,rfl⟩,rfl,⟨_,H.out⟩,Keep.refl _ _⟩
 have q1:decide (c<1)=false:=by simpa using h1
 by_cases h2:8<c
 ·have q2:decide (8<c)=true:=by simpa using h2
  go_enter Tryz.func14,Tryz.ntmps14
  go_wp2_with fail
  refine bodyPost_ret (v:=.tuple #[.int .i64 0,.int .i64 0,.int .i64 1]) (by simp [results,Tryz.results14,go_sem]) rfl ?_
  exact ⟨0,0,1,ls,.inl ⟨by omega,rfl,rfl,rfl,rfl⟩,rfl,⟨_,H.out⟩,Keep.refl _ _⟩
 have q2:decide (8<c)=false:=by simpa using h2
 have C1:=Lib.hid (rtotal_any H.out II.out.inv.good (by have:=II.out.len; omega) c)
 have C2:=Lib.hid (rdebts_any H.out c)
 have DM:=Lib.hid (debtsL_may II.out c)
 have DL:=Lib.hid (debts_len II.out c)
 have HC:Hid (1≤c∧c≤8):=Lib.hid ⟨by omega,by omega⟩
 clear h1 h2
 go_enter Tryz.func14,Tryz.ntmps14
 go_wp2_with fail
 refine C1.out.mono ?_
 rintro e w1 ⟨rfl,rfl⟩
 go_wp2_with fail
 refine C2.out.mono ?_
 rintro e w1 ⟨v,rfl,ho,hb1⟩
 have B1:=Lib.hid hb1
 have OD:=Lib.hid ho
 obtain ⟨D,hD⟩:∃ D,debtsL ls c=D:=⟨_,rfl⟩
 have ED:=Lib.hid hD
 rw [hD] at ho DM DL OD
 have HDf:DebtsFit D:=fun m hm=>by
  obtain ⟨⟨a1,a2⟩,⟨a3,a4⟩,_,a5,a6⟩:=DM.out.ok m hm
  exact ⟨⟨by omega,by omega⟩,⟨by omega,by omega⟩,by omega,by omega⟩
 obtain ⟨ao,ca,rfl,_⟩:=owns_open ho
 have HD1:=Lib.hid (reads_debts (cap:=ca) (Reads.of_owns ho (by have:=DL.out; omega)))
 have C3:=Lib.hid (HRR.out.at_ _ _ ca _ HD1.out HDf DL.out q)
 clear ho hb1 hD HRR C1 C2 HDf
 go_wp2_with fail
 refine C3.out.mono ?_
 rintro e w2 ⟨hb2,hcase⟩
 have B2:=Lib.hid (B1.out.trans (hb2.mono B1.out.size))
 have H2:=Lib.hid (H.out.below B2.out)
 clear C3
 rcases hcase with ⟨hn,rfl⟩ | ⟨_,hq0,L,j,hL,⟨hj,lv,rfl,hr⟩ | ⟨hj,rfl⟩⟩
 ·have hn0:¬ 0≤q:=fun e=>hn ⟨DM.out,e⟩
  clear hn hb2
  go_wp2_with fail
  refine bodyPost_ret (v:=.tuple #[.int .i64 0,.int .i64 0,.int .i64 1]) (by simp [results,Tryz.results14,go_sem]) rfl ?_
  exact ⟨0,0,1,ls,.inl ⟨fun e=>by have:=e.2; omega,rfl,rfl,rfl,rfl⟩,rfl,⟨_,H2.out⟩,Keep.of_below B2.out⟩
 ·have HL:=Lib.hid hL
  have RO:=Lib.hid hL.inv.ok
  obtain ⟨T,hT⟩:∃ T,leftL D L=T:=⟨_,rfl⟩
  have ET:=Lib.hid hT
  rw [hT] at hr
  have TL:Hid (T.length≤240):=Lib.hid (by rw [← hT]; exact Nat.le_trans (leftN_len D L D.length) DL.out)
  have hdx:DebtsBy g w2 ao D:=(DebtsBy.of (H.out.below B1.out) HD1.out).keep (Keep.of_below hb2)
  obtain ⟨lo,lc,hlv⟩:∃ lo lc,lv=.slice lo T.length lc:=by obtain ⟨lo,lc,e,_⟩:=hr; exact ⟨lo,lc,e⟩
  subst hlv
  have hlx:=DebtsBy.of H2.out (reads_debts hr)
  have DX:=Lib.hid hdx
  have LX:=Lib.hid hlx
  clear hdx hlx hr hb2 hL HD1 OD B1 H
  go_wp2_with fail
  go_loopw [14,15,16] (fun i _ _ wr=>NtAt w2 base g ps ls vp c D L i wr) (fun i _ _ _=>D.length - (intOf i).toNat)
  case atStart=>exact ⟨0,by omega,rfl,⟨_,H2.out⟩,Keep.refl _ _⟩
  case round =>
   obtain ⟨k,hk,rfl,⟨vl2,hRL⟩,hKK⟩:=hrel
   have LL:=Lib.hid hRL
   have KK:=Lib.hid hKK
   have DW:=Lib.hid (DX.out.keep hKK)
   have LW:=Lib.hid (LX.out.keep hKK)
   clear hRL hKK
   by_cases hkl:k<D.length
   ·have hki:(k:Int)<(D.length:Int):=by omega
    have hk0:(0:Int)≤(k:Int):=by omega
    have q5:decide ((k:Int)<(D.length:Int))=true:=by simpa using hkl
    obtain ⟨db,doff,rfl,hdb,hdg,hdc⟩:=DW.out (by omega)
    obtain ⟨c0,c1,c2⟩:=hdc k hkl
    have NX:Hid (netTo ls c D L (k + 1)=forgiveL (netTo ls c D L k) (dbt D k).tt (dbt D k).fr c ((dbt D k).am - L k)):=Lib.hid rfl
    have IK:=Lib.hid (netTo_inv II.out c D L k)
    have FT:=Lib.hid (fun m hm=>fit_bd DM.out RO.out hkl (k:=m) hm)
    have FE:=Lib.hid (left_fit DM.out RO.out hkl)
    rw [ET.out] at FT FE
    have BD:=Lib.hid (DM.out.ok k hkl)
    have LH:=Lib.hid (RO.out.hi k hkl)
    generalize netTo ls c D L k=lk at *
    obtain ⟨x,hx⟩:∃ x,dbt D k=x:=⟨_,rfl⟩
    rw [hx] at NX FT FE BD c0 c1 c2 LH
    clear hx hdc
    obtain ⟨fr,tt,am⟩:=x
    dsimp only at NX FT FE BD c0 c1 c2 LH
    have E0:=Lib.hid c0
    have E1:=Lib.hid c1
    clear c0 c1
    go_wp2_with fail
    go_loopw [15,16] (fun n i wr'=>NtI wr T fr tt am n i wr') (fun _ i _=>T.length - (intOf i).toNat)
    case atStart=>exact ⟨0,by omega,rfl,by rw [show fitFN fr tt T 0=0 from rfl,Int.sub_zero],Below.refl _ _⟩
    case round =>
     obtain ⟨m,hm,rfl,rfl,hBV⟩:=hrel
     have BV:=Lib.hid hBV
     have hdV:=Nat.lt_of_lt_of_le hdb hBV.size
     have V0:=Lib.hid ((hBV.cell (p:=⟨db,doff + k * 3,none⟩) hdb).trans E0.out)
     have V1:=Lib.hid ((hBV.cell (p:=⟨db,doff + k * 3 + 1,none⟩) hdb).trans E1.out)
     by_cases hml:m<T.length
     ·have hm240:=Nat.lt_of_lt_of_le hml TL.out
      have hmi:(m:Int)<(T.length:Int):=by omega
      have hm0:(0:Int)≤(m:Int):=by omega
      have q6:decide ((m:Int)<(T.length:Int))=true:=by simpa using hml
      obtain ⟨tb,toff,rfl,htb,_,htc⟩:=LW.out (by omega)
      obtain ⟨t0,t1,t2⟩:=htc m hml
      have htV:=Nat.lt_of_lt_of_le htb hBV.size
      have e0:=(hBV.cell (p:=⟨tb,toff + m * 3,none⟩) htb).trans t0
      have e1:=(hBV.cell (p:=⟨tb,toff + m * 3 + 1,none⟩) htb).trans t1
      have e2:=(hBV.cell (p:=⟨tb,toff + m * 3 + 2,none⟩) htb).trans t2
      have v0:=V0.out
      have v1:=V1.out
      clear t0 t1 t2 htc
      have NM:=Lib.hid (show fitFN fr tt T (m + 1)=fitFN fr tt T m + if (dbt T m).fr=fr∧(dbt T m).tt=tt then (dbt T m).am else 0 from rfl)
      have b1:=FT.out m (by omega)
      have b2:=FT.out (m + 1) hml
      obtain ⟨y,hy⟩:∃ y,dbt T m=y:=⟨_,rfl⟩
      rw [hy] at NM e0 e1 e2
      clear hy
      obtain ⟨fy,ty,ay⟩:=y
      dsimp only at NM e0 e1 e2
      have hml2:=Lib.hid hml
      clear hBV
      by_cases g1:fy=fr
      ·by_cases g2:ty=tt
       ·subst g1
        subst g2
        rw [if_pos ⟨rfl,rfl⟩] at NM
        go_wp2_with fail
        go_quiet (fail)
        go_wp2_with fail
        exact ⟨⟨m + 1,by have:=hml2.out; omega,by go_num,by rw [NM.out,show wrap64 (am - fitFN fy ty T m - ay)=am - (fitFN fy ty T m + ay) by unfold wrap64; obtain ⟨_,_,_,z1,z2⟩:=BD.out; dsimp only at z1 z2; have:=LH.out; have:=NM.out; have:=b1.1; have:=b2.2; have:=b1.2; have:=b2.1; omega],⟨BV.out.os,BV.out.tape,BV.out.output,BV.out.size,BV.out.block⟩⟩,by simp [intOf]; have:=hml2.out; omega⟩
       ·have q8:(ty==tt)=false:=by simpa using g2
        rw [if_neg (fun e=>g2 e.2),Int.add_zero] at NM
        subst g1
        go_wp2_with fail
        go_quiet (fail)
        go_wp2_with fail
        exact ⟨⟨m + 1,by have:=hml2.out; omega,by go_num,by rw [NM.out],⟨BV.out.os,BV.out.tape,BV.out.output,BV.out.size,BV.out.block⟩⟩,by simp [intOf]; have:=hml2.out; omega⟩
      ·have q8:(fy==fr)=false:=by simpa using g1
       rw [if_neg (fun e=>g1 e.1),Int.add_zero] at NM
       go_wp2_with fail
       go_quiet (fail)
       go_wp2_with fail
       exact ⟨⟨m + 1,by have:=hml2.out; omega,by go_num,by rw [NM.out],⟨BV.out.os,BV.out.tape,BV.out.output,BV.out.size,BV.out.block⟩⟩,by simp [intOf]; have:=hml2.out; omega⟩
     ·have hme:m=T.length:=by omega
      subst hme
      have q6:decide (((T.length:Nat):Int)<(T.length:Int))=false:=by simp
      rw [FE.out]
      have LV:=Lib.hid (LL.out.below BV.out)
      have KV:=Lib.hid (KK.out.trans (Keep.of_below BV.out))
      have hD240:=DL.out
      have LO:=RO.out.lo k hkl
      have BO:=BD.out
      unfold okD at BO
      obtain ⟨_,_,_,b1,b9⟩:=BO
      dsimp only at b1 b9
      have lh:=LH.out
      obtain ⟨fe,hfe⟩:∃ fe,forgiveE lk tt fr c (am - L k)=fe:=⟨_,rfl⟩
      have HFE:=Lib.hid hfe
      clear E0 E1 BV hfe
      go_wp2_with fail
      refine region_end (by kernel_rfl) 13 16 [(.pointer (some ⟨g,0,none⟩)),(.slice (some ⟨db,doff,none⟩) D.length ca),(.int .i64 k),(.pointer (some ⟨db,doff + k * 3,none⟩)),(.pointer (some ⟨db,doff + k * 3 + 1,none⟩)),(.int .u8 tt),(.slice (some ⟨db,doff,none⟩) D.length ca),(.int .i64 k),(.pointer (some ⟨db,doff + k * 3,none⟩)),(.pointer (some ⟨db,doff + k * 3,none⟩)),(.int .u8 fr),(.int .u8 c),(.int .i64 (am - L k)),(.int .i64 fe)]
       (fun w'=>Below wr.heap.size wr w') (by kernel_rfl) rfl (by kernel_rfl) (Below.refl _ _).drew ?_
      intro af haf
      simp only [List.toList_toArray,List.append_eq,List.cons_append,List.nil_append,puts,Act.put,List.getD_cons_zero,List.getD_cons_succ,List.setIfInBounds_toArray,List.set_cons_succ,List.set_cons_zero] at haf
      subst haf
      refine ⟨?_,?_⟩
      ·simp only [List.toList_toArray,List.take_succ_cons,List.take_zero,EachTo]
       refine ⟨?_,?_,?_,?_,?_,?_,?_,?_,?_,?_,?_,?_,?_,trivial⟩
       ·intro w' hS
        refine OpTo.plain ?_ ?_
        exact rfl
        have HS:=Lib.hid hS
        clear hS
        go_wp2_with fail
        all_goals first | exact HS.out | exact ⟨rfl,HS.out⟩ | rfl | exact ⟨by omega,HS.out⟩
       ·intro w' hS
        refine OpTo.plain ?_ ?_
        exact rfl
        have HS:=Lib.hid hS
        clear hS
        go_wp2_with fail
        all_goals first | exact HS.out | exact ⟨rfl,HS.out⟩ | rfl | exact ⟨by omega,HS.out⟩
       ·intro w' hS
        refine OpTo.plain ?_ ?_
        exact rfl
        have HS:=Lib.hid hS
        clear hS
        go_wp2_with fail
        all_goals first | exact HS.out | exact ⟨rfl,HS.out⟩ | rfl | exact ⟨by omega,HS.out⟩
       ·intro w' hS
        refine OpTo.plain ?_ ?_
        exact rfl
        have e:=(hS.cell (p:=⟨db,doff + k * 3,none⟩) hdV).trans V0.out
        have hbb:=Nat.lt_of_lt_of_le hdV hS.size
        have HS:=Lib.hid hS
        clear hS
        go_wp2_with fail
        all_goals first | exact HS.out | exact ⟨rfl,HS.out⟩ | rfl | exact ⟨by omega,HS.out⟩
       ·intro w' hS
        refine OpTo.plain ?_ ?_
        exact rfl
        have e:=(hS.cell (p:=⟨db,doff + k * 3 + 1,none⟩) hdV).trans V1.out
        have hbb:=Nat.lt_of_lt_of_le hdV hS.size
        have HS:=Lib.hid hS
        clear hS
        go_wp2_with fail
        all_goals first | exact HS.out | exact ⟨rfl,HS.out⟩ | rfl | exact ⟨by omega,HS.out⟩
       ·intro w' hS
        refine OpTo.plain ?_ ?_
        exact rfl
        have e:=(hS.cell (p:=⟨db,doff + k * 3 + 1,none⟩) hdV).trans V1.out
        have hbb:=Nat.lt_of_lt_of_le hdV hS.size
        have HS:=Lib.hid hS
        clear hS
        go_wp2_with fail
        all_goals first | exact HS.out | exact ⟨rfl,HS.out⟩ | rfl | exact ⟨by omega,HS.out⟩
       ·intro w' hS
        refine OpTo.plain ?_ ?_
        exact rfl
        have HS:=Lib.hid hS
        clear hS
        go_wp2_with fail
        all_goals first | exact HS.out | exact ⟨rfl,HS.out⟩ | rfl | exact ⟨by omega,HS.out⟩
       ·intro w' hS
        refine OpTo.plain ?_ ?_
        exact rfl
        have HS:=Lib.hid hS
        clear hS
        go_wp2_with fail
        all_goals first | exact HS.out | exact ⟨rfl,HS.out⟩ | rfl | exact ⟨by omega,HS.out⟩
       ·intro w' hS
        refine OpTo.plain ?_ ?_
        exact rfl
        have e:=(hS.cell (p:=⟨db,doff + k * 3,none⟩) hdV).trans V0.out
        have hbb:=Nat.lt_of_lt_of_le hdV hS.size
        have HS:=Lib.hid hS
        clear hS
        go_wp2_with fail
        all_goals first | exact HS.out | exact ⟨rfl,HS.out⟩ | rfl | exact ⟨by omega,HS.out⟩
       ·intro w' hS
        refine OpTo.plain ?_ ?_
        exact rfl
        have e:=(hS.cell (p:=⟨db,doff + k * 3,none⟩) hdV).trans V0.out
        have hbb:=Nat.lt_of_lt_of_le hdV hS.size
        have HS:=Lib.hid hS
        clear hS
        go_wp2_with fail
        all_goals first | exact HS.out | exact ⟨rfl,HS.out⟩ | rfl | exact ⟨by omega,HS.out⟩
       ·intro w' hS
        refine OpTo.plain ?_ ?_
        exact rfl
        have e:=(hS.cell (p:=⟨db,doff + k * 3,none⟩) hdV).trans V0.out
        have hbb:=Nat.lt_of_lt_of_le hdV hS.size
        have HS:=Lib.hid hS
        clear hS
        go_wp2_with fail
        all_goals first | exact HS.out | exact ⟨rfl,HS.out⟩ | rfl | exact ⟨by omega,HS.out⟩
       ·intro w' hS
        refine OpTo.plain ?_ ?_
        exact rfl
        have HS:=Lib.hid hS
        clear hS
        go_wp2_with fail
        all_goals first | exact HS.out | exact ⟨rfl,HS.out⟩ | rfl | exact ⟨by omega,HS.out⟩
       ·intro w' hS
        refine OpTo.plain ?_ ?_
        exact rfl
        have HS:=Lib.hid hS
        clear hS
        go_wp2_with fail
        all_goals first | exact HS.out | exact ⟨rfl,HS.out⟩ | rfl | exact ⟨by omega,HS.out⟩
      simp only [List.getD_cons_succ,List.getD_cons_zero,List.toList_toArray]
      intro w' hS
      refine OpTo.plain ?_ ?_
      exact rfl
      have LF:=Lib.hid (rforgive_any (LV.out.below hS) IK.out.inv.good (by have:=IK.out.len; omega) tt fr c (am - L k) ⟨by omega,by omega⟩)
      rw [HFE.out] at LF
      have KF:=Lib.hid (KV.out.trans (Keep.of_below hS))
      have HKL:=Lib.hid hkl
      clear hS V0 V1 LV KV
      go_wp2_with fail
      refine LF.out.mono ?_
      rintro e w5 ⟨rfl,vl3,hR3,hK3⟩
      have R3:=Lib.hid hR3
      have K3:=Lib.hid (KF.out.trans hK3)
      clear hR3 hK3 LF KF
      refine ⟨rfl,?_⟩
      go_wp2_with fail
      exact ⟨⟨k + 1,by have:=HKL.out; omega,by go_num,⟨vl3,by rw [NX.out]; exact R3.out⟩,K3.out⟩,by simp [intOf]; have:=HKL.out; omega⟩
   ·have hke:k=D.length:=by omega
    subst hke
    have q5:decide (((D.length:Nat):Int)<(D.length:Int))=false:=by simp
    have EN:Hid (netTo ls c D L D.length=netL ls c L):=Lib.hid (by unfold netL; rw [ED.out])
    rw [EN.out] at LL
    have NG:=net_go II.out c (L:=L) (k:=j) (by rw [ED.out]; exact HL.out)
    have s1:=NG.sum
    have s2:=NG.lo
    have s3:=NG.hi
    have IT:=Lib.hid (netL_inv II.out c L)
    have CT:=Lib.hid (rtotal_any LL.out IT.out.inv.good (by have:=IT.out.len; omega) c)
    have ANS:Hid (NetAns ls c q (totL ls c - totL (netL ls c L) c) j 0 (netL ls c L)):=Lib.hid (.inr ⟨HC.out,hq0,L,j,by rw [ED.out]; exact HL.out,.inl ⟨hj,rfl,rfl,rfl,rfl⟩⟩)
    have KF:=Lib.hid ((Keep.of_below (S:=(·=g)) B2.out).trans KK.out)
    generalize netL ls c L=lt at *
    generalize totL ls c=A at *
    generalize totL lt c=Z at *
    clear NG KK EN
    go_wp2_with fail
    refine CT.out.mono ?_
    rintro e w6 ⟨rfl,rfl⟩
    go_wp2_with fail
    refine bodyPost_ret (v:=.tuple #[.int .i64 (A - Z),.int .i64 j,.int .i64 0]) (by simp [results,Tryz.results14,go_sem]) rfl ?_
    exact ⟨_,_,_,lt,ANS.out,rfl,⟨_,LL.out⟩,KF.out⟩
 ·have HL:=Lib.hid hL
  clear hL hb2
  go_wp2_with fail
  refine bodyPost_ret (v:=.tuple #[.int .i64 0,.int .i64 0,.int .i64 13]) (by simp [results,Tryz.results14,go_sem]) rfl ?_
  exact ⟨0,0,13,ls,.inr ⟨HC.out,hq0,L,j,by rw [ED.out]; exact HL.out,.inr ⟨hj,rfl,rfl,rfl,rfl⟩⟩,rfl,⟨_,H2.out⟩,Keep.of_below B2.out⟩
end Go.Proofs.YtlbjjkbppbmihaaGreat
