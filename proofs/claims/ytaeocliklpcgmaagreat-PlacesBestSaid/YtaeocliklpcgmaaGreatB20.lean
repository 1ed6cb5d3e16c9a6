/- Pieces of one proof. -/
import Derived.Test.YtaeocliklpcgmaaGreatB19
set_option linter.all false
set_option maxHeartbeats 64000000
set_option maxRecDepth 100000
namespace Go.Proofs.YtaeocliklpcgmaaGreat
open Go.RowKit
def FsAt(W:World)(s0 s1 G M gb:Nat)(ps:List Int)(ls':List Ln)(l':List Of)(N tk pt get give:Int)(falls:Bool)(fs:List Fl)(wv mv i:Value)(wr:World):Prop:=
 ∃(k:Nat) (ls:List Ln) (l:List Of) (wn mo:Int) (vb:Value),k≤fs.length∧i=.int .i64 k∧wv=.int .i64 wn∧mv=.int .i64 mo∧LedM wr G M ps ls∧LInv ps ls∧PB wr s0 gb l N vb∧BInv l N∧(∀b,vb.ownBlock=some b→b<s1∨W.heap.size≤b)∧Keep (fun j=>s0≤j∧j<s1) W wr∧
  ((-1099511627776*(k:Int)≤wn∧wn≤1099511627776) ∧ -1099511627776*(k:Int)≤mo∧mo≤1099511627776)∧Hid (aLf ps tk pt get give falls (fs.drop k) ls l wn mo ls' l')
theorem aOp{l:List Of}{N:Int}(hJ:BInv l N)(s b:Int):∀o∈aC6 l s b,0≤o.se∧o.se≤18446744073709551615:=fun o ho=>by
 have hm:=hJ.bd o (aD4 hJ ho).1;have:=hJ.n2;omega
def FiAt(W:World)(m:Nat)(i:Value)(wr:World):Prop:=∃j:Nat,j≤m∧i=.int .i64 j∧Below W.heap.size W wr
theorem aKl(HMy:aDg)(HD:aEq)(HCp:aFf){w:World}{G M gb base G2 M2 gb2 base2 cap:Nat}{ps:List Int}{ls ls':List Ln}{l l':List Of}{N N':Int}{vb vb2:Value}{ao:Option Addr}{fs:List Fl}{tk pt xf xp get give n most:Int}{falls:Bool}
  (hL:LedM w G M ps ls)(hI:LInv ps ls)(hP:PB w base gb l N vb)(hJ:BInv l N)(hL2:LedM w G2 M2 ps ls')(hI2:LInv ps ls')(hP2:PB w base2 gb2 l' N' vb2)(hl2:l'.length≤32)(hF:FillsIn w ao tk pt fs)(hc1:fs.length≤cap)(hc2:cap≤maxLen)(hlen:fs.length≤64)
  (ht:In8 tk)(hp:In8 pt)(hg:In8 get)(hv:In8 give)(hn:0≤n∧n≤1099511627776)(hm:0≤most∧most≤1099511627776)(hfs:∀f∈fs,(1≤f.got∧f.got≤1099511627776)∧1≤f.gi∧f.gi≤1099511627776)(hX:aLf ps tk pt get give falls fs ls l n most ls' l'):
  Calls Tryz.prog 33 #[.agg #[.pointer (some ⟨G,0,none⟩),.pointer (some ⟨gb,0,none⟩)],.agg #[.pointer (some ⟨G2,0,none⟩),.pointer (some ⟨gb2,0,none⟩)],.slice ao fs.length cap,.agg #[.int .u8 xf,.int .u8 xp,.int .u8 get,.int .u8 give,.int .i64 n,.int .i64 most],.bool falls] w (yR w (.bool true)):=by
 have b1:=(Below.refl w.heap.size w).alloc yL (.cells #[.pointer (some ⟨G,0,none⟩),.pointer (some ⟨gb,0,none⟩)] 31);have b2:=b1.alloc b1.size (.cells #[.pointer (some ⟨G2,0,none⟩),.pointer (some ⟨gb2,0,none⟩)] 31);have b3:=b2.alloc b2.size (.cells #[.int .u8 xf,.int .u8 xp,.int .u8 get,.int .u8 give,.int .i64 n,.int .i64 most] 91);have KW:=yH (((pAA w #[.pointer (some ⟨G,0,none⟩),.pointer (some ⟨gb,0,none⟩)] 31).alloc (.cells #[.pointer (some ⟨G2,0,none⟩),.pointer (some ⟨gb2,0,none⟩)] 31)).alloc (.cells #[.int .u8 xf,.int .u8 xp,.int .u8 get,.int .u8 give,.int .i64 n,.int .i64 most] 91));have KA:=yH ((pAC (w.alloc (.cells #[.pointer (some ⟨G,0,none⟩),.pointer (some ⟨gb,0,none⟩)] 31)) #[.pointer (some ⟨G2,0,none⟩),.pointer (some ⟨gb2,0,none⟩)] 31 (g:=w.heap.size+1) (by simp)).alloc (.cells #[.int .u8 xf,.int .u8 xp,.int .u8 get,.int .u8 give,.int .i64 n,.int .i64 most] 91));have KX:=yH (pAC ((w.alloc (.cells #[.pointer (some ⟨G,0,none⟩),.pointer (some ⟨gb,0,none⟩)] 31)).alloc (.cells #[.pointer (some ⟨G2,0,none⟩),.pointer (some ⟨gb2,0,none⟩)] 31)) #[.int .u8 xf,.int .u8 xp,.int .u8 get,.int .u8 give,.int .i64 n,.int .i64 most] 91 (g:=w.heap.size+2) (by simp));have L0:=yH (hL.below b3);have P0:=yH (hP.below b3);have L2:=yH (hL2.below b3);have P2:=yH (hP2.below b3);have HF0:=yH hF;have B0:=yH b3;have II:=yH hI;have JJ:=yH hJ;have I2:=yH hI2;have HL2:=yH hl2;have HT_:=yH ht;have HP_:=yH hp;have HG_:=yH hg;have HV_:=yH hv;have HFS:=yH hfs;have HXX:=yH hX;have HNM:=yH (And.intro hn hm);have HLEN:=yH hlen;unfold maxLen at hc2;clear b1 b2 b3 hL hI hP hJ hL2 hI2 hP2 hl2 hF ht hp hg hv hfs hX hn hm hlen;go_enter Tryz.func33,Tryz.ntmps33;generalize hW:((w.alloc (.cells #[.pointer (some ⟨G,0,none⟩),.pointer (some ⟨gb,0,none⟩)] 31)).alloc (.cells #[.pointer (some ⟨G2,0,none⟩),.pointer (some ⟨gb2,0,none⟩)] 31)).alloc (.cells #[.int .u8 xf,.int .u8 xp,.int .u8 get,.int .u8 give,.int .i64 n,.int .i64 most] 91)=W at *;have HW:=yH hW;clear hW;have x4:=KX.out.cell 4;have x5:=KX.out.cell 5;have xl:=KX.out.lt;have h0:=KW.out.cell 0;have h1:=KW.out.cell 1;have hl:=KW.out.lt;simp at x4 x5 h0 h1
 go_upto_region 1 with fail
 rw[HW.out];have CC:=yH (HCp L0.out II.out P0.out JJ.out);go_wp2_with fail;refine CC.out.mono ?_;rintro e wc ⟨G1,M1,gb1,vb1,rfl,hL,hP,hg,hm,b3⟩;have bh:=(Below.refl wc.heap.size wc).alloc yL (.cells #[.pointer (some ⟨G1,0,none⟩),.pointer (some ⟨gb1,0,none⟩)] 31);have KH:=yH (pAA wc #[.pointer (some ⟨G1,0,none⟩),.pointer (some ⟨gb1,0,none⟩)] 31);have L1:=yH (hL.below bh);have P1:=yH (hP.below bh);have b4:=b3.trans (bh.mono b3.size);have LA:=yH (L2.out.below b4);have PA:=yH (P2.out.below b4);have KA6:=yB KA b4;have KX6:=yB KX b4;have B6:=yT B0 b4;have GE:=yH (show W.heap.size≤G1∧W.heap.size≤M1∧W.heap.size≤gb1∧G1<wc.heap.size∧M1<wc.heap.size∧gb1<wc.heap.size∧(∀b,vb1.ownBlock=some b→W.heap.size≤b∧b<wc.heap.size)∧w.heap.size+2<W.heap.size∧W.heap.size≤wc.heap.size from⟨hg,hm,hP.ge,hL.blk.lt,hL.map.lt,hP.blk.lt,fun b hb=>hP.lt (.inr hb),KX.out.lt,b3.size⟩);have GA:=yH (show G2<W.heap.size∧M2<W.heap.size∧∀b,Foot gb2 vb2 b→b<W.heap.size from⟨L2.out.blk.lt,L2.out.map.lt,fun b hb=>(P2.out.lt hb).2⟩);clear bh b3 b4 hL hP hg hm CC x4 x5 xl h0 h1 hl KW KA KX L0 P0 L2 P2 B0;have HWS:Hid (wc.heap.size<(wc.alloc (.cells #[.pointer (some ⟨G1,0,none⟩),.pointer (some ⟨gb1,0,none⟩)] 31)).heap.size):=yH (by simp);go_wp2_with fail;generalize wc.alloc (.cells #[.pointer (some ⟨G1,0,none⟩),.pointer (some ⟨gb1,0,none⟩)] 31)=W6 at *
 go_loopw [11,12,14,15,16,17,18,19,20] (fun wv mv i _ _ _ _ _ _ wr=>FsAt W6 W.heap.size wc.heap.size G1 M1 gb1 ps ls' l' N tk pt get give falls fs wv mv i wr) (fun _ _ i _ _ _ _ _ _ _=>fs.length - (intOf i).toNat)
 case atStart=>exact⟨0,ls,l,n,most,vb1,Nat.zero_le _,rfl,rfl,rfl,L1.out,II.out,P1.out,JJ.out,fun b hb=>.inl (GE.out.2.2.2.2.2.2.1 b hb).2,Keep.refl _ _,by have:=HNM.out;omega,yH (by rw[List.drop_zero];exact HXX.out)⟩
 clear L1 P1 II JJ;obtain⟨k,ls,l,wn,mo,vb,hk,rfl,rfl,rfl,hL,hI,hP,hJ,hV,hK,hbd,HE⟩:=hrel;have HWSz:=HWS.out;have hge:=GE.out;have hga:=GA.out;have KHr:=yH (KH.out.keep hK (by omega));have Br:Hid (Below W.heap.size W6 wr):=yH (hK.below (by omega) (fun j hj h=>by omega));have LAr:=yH (LA.out.keep hK (by omega) (by omega));have PAr:=yH (PA.out.keep hK (by have:=hga.2.2 gb2 (.inl rfl);omega) (fun b hb e=>by have:=hga.2.2 b (.inr hb);omega));have KAr:=yH (KA6.out.below Br.out (by omega));have KXr:=yH (KX6.out.below Br.out (by omega));have Lr:=yH hL;have Pr:=yH hP;have Ir:=yH hI;have Jr:=yH hJ;have Vr:=yH hV;have Kr:=yH hK;have VW:=yH (show ∀b,vb.ownBlock=some b→b<wr.heap.size from fun b hb=>(hP.lt (.inr hb)).2);have BDr:=yH hbd;have BB:=yH (show Below w.heap.size w wr from B6.out.trans (Br.out.mono (by omega)));clear hL hI hP hJ hV hK HWSz hge hga
 by_cases hkl:k<fs.length
 ·have hki:(k:Int)<(fs.length:Int):=by omega
  have hk0:(0:Int)≤(k:Int):=by omega
  have q0:decide ((k:Int)<(fs.length:Int))=true:=by simpa using hkl
  have HKL:=yH hkl;obtain⟨bf,hbf,hcf⟩:=HF0.out k hkl;subst hbf;obtain⟨hbl,hcj⟩:=hcf wr BB.out;rw[List.drop_eq_getElem_cons hkl]at HE;have HFB:=yH (HFS.out _ (List.getElem_mem hkl));have p0:=hcj 0 (by omega);have p1:=hcj 1 (by omega);have p2:=hcj 2 (by omega);have p3:=hcj 3 (by omega);have p4:=hcj 4 (by omega);generalize fs[k]=f at *;obtain⟨se,q,x⟩:=f;simp only[Fl.vals,List.getElem?_cons_zero,List.getElem?_cons_succ]at p0 p1 p2 p3 p4;rw[Nat.add_zero]at p0;obtain⟨hfst,o,hfo,hgi,hrest⟩:=HE.out;dsimp only at hfst hfo hgi hrest HFB;obtain⟨m,hm,e1,e2,e3,e4⟩:=aKj hfst;generalize hos:aC6 l get give=os at *;have HOS:=yH hos;clear hos;have bw:=(Below.refl wr.heap.size wr).alloc yL (.cells #[.int .u64 se,.int .u8 tk,.int .u8 pt,.int .i64 q,.int .i64 x] 73);have KF:=yH (pAA wr #[.int .u64 se,.int .u8 tk,.int .u8 pt,.int .i64 q,.int .i64 x] 73);have KHw:=yB KHr bw;have KXw:=yB KXr bw;have Pw:=yH (Pr.out.below bw);have Lw:=yH (Lr.out.below bw);have Bw:=yH bw;have CB:=yH (aJj Pw.out Jr.out get give);rw[HOS.out]at CB;have x2:=KXw.out.cell 2;have x3:=KXw.out.cell 3;have xl:=KXw.out.lt;have h0:=KHw.out.cell 0;have h1:=KHw.out.cell 1;have hl:=KHw.out.lt;simp at x2 x3 h0 h1;have OK:=yH (may_okS Ir.out e2.symm (by omega));have FND:=yH hfo;have GI:=yH hgi;have RST:=yH hrest;have E1:=yH e1;have E2:=yH e2;have E3:=yH e3;have E4:=yH e4;have HM:=yH hm;have HBM:=yH (fun o (ho:o∈aC6 l get give)=>(aD4 Jr.out ho).1);have HSQ:=yH (aOp Jr.out get give);rw[HOS.out]at HBM HSQ;have FOF:=yH (fun o (ho:o∈l)=>aLe Jr.out ho);clear hfst hfo hgi hrest e1 e2 e3 e4 bw hcj hcf hkl
  go_upto_region 8 with fail
  generalize hWw:wr.alloc (.cells #[.int .u64 se,.int .u8 tk,.int .u8 pt,.int .i64 q,.int .i64 x] 73)=ww at *;have HWw:=yH hWw;clear hWw p0 p1 p2 p3 p4;generalize hsf:wr.heap.size=sf at *;have HSF:=yH hsf;clear hsf;go_wp2_with fail;refine CB.out.mono ?_;rintro e w9 ⟨v,rfl,hv,b9⟩;obtain⟨b,cap2,rfl,hv1,hv2,hoff⟩:=aOk hv (by have h:=HM.out;omega);unfold maxLen at hv2;have OI:=yH hoff;have KF9:=yB KF b9;have KH9:=yB KHw b9;have KX9:=yB KXw b9;have P9:=yH (Pw.out.below b9);have L9:=yH (Lw.out.below b9);have B9:=yH (Bw.out.trans (b9.mono (by rw[←HSF.out];exact Bw.out.size)));clear hv hoff b9 x2 x3 xl h0 h1 hl CB KF KHw KXw Pw Lw Bw KHr KXr Pr Lr;go_wp2_with fail
  go_loopw [17,18] (fun i _ wr=>FiAt w9 m i wr) (fun i _ _=>os.length - (intOf i).toNat)
  case atStart=>exact⟨0,Nat.zero_le _,rfl,yZ⟩
  obtain⟨j,hj,rfl,hbj⟩:=hrel;have BJ:=yH hbj;have KFj:=yB KF9 hbj;have KHj:=yB KH9 hbj;have OIj:=yH (OI.out.below hbj);have Pj:=yH (P9.out.below hbj);have Lj:=yH (L9.out.below hbj);have hjl:j<os.length:=by have:=HM.out;omega
  have hji:(j:Int)<(os.length:Int):=by omega
  have hj0:(0:Int)≤(j:Int):=by omega
  have qj:decide ((j:Int)<(os.length:Int))=true:=by simpa using hjl
  have HJL:=yH hjl;have HJM:=yH hj;have OJ:=yH (fun w' (h:Below wr.heap.size wr w')=>(OIj.out w' h).2 j hjl);have OB:=yH (fun w' (h:Below wr.heap.size wr w')=>(OIj.out w' h).1);have SQ:=yH (HSQ.out _ (List.getElem_mem hjl));generalize hoj:os[j]=oj at *;have HOJ:=yH hoj;obtain⟨nv,hnv⟩:∃nv,mayS ps ls l tk pt wn mo oj.se=nv:=⟨_,rfl⟩;have CM:=yH (fun w' (h:Below wr.heap.size wr w')=>aJh HMy (Lj.out.below h) Ir.out (Pj.out.below h) Jr.out oj.se tk pt wn mo SQ.out HT_.out HP_.out (by have:=BDr.out;have:=HLEN.out;have:=HKL.out;unfold In64;omega) (by have:=BDr.out;have:=HLEN.out;have:=HKL.out;unfold In64;omega));rw[hnv]at CM;have HNV:=yH hnv;clear hbj hoj hnv hjl hj KF9 KH9 OI P9 L9;go_wp2_with fail
  refine aBj (by kernel_rfl) [(.agg #[.pointer (some ⟨G1,0,none⟩),.pointer (some ⟨gb1,0,none⟩)]),(.slice (some ⟨b,0,none⟩) os.length cap2),(.int .i64 j),(.pointer (some ⟨b,j*7,none⟩)),(.pointer (some ⟨b,j*7,none⟩)),(.int .u64 oj.se),(.pointer (some ⟨sf,1,none⟩)),(.int .u8 tk),(.pointer (some ⟨sf,2,none⟩)),(.int .u8 pt),(.int .i64 wn),(.int .i64 mo),(.int .i64 nv),(.int .i64 nv)]
   (fun w'=>Below wr.heap.size wr w') (by kernel_rfl) yZ.drew ?_
  intro af haf;simp only[yG,List.append_eq,List.cons_append,List.nil_append,puts,Act.put,yA,yC,yF,yD,yE]at haf;subst haf;refine⟨?_,?_⟩
  ·simp only[yG,List.append_eq,List.cons_append,List.nil_append,aBp];refine⟨?_,?z1,?z2,?z6,?z7,?z8,?z9,?z11,?z10,?z12,?z3,?z4,?_,?z5,trivial⟩
   case z1|z2|z3|z4|z5=>
    intro w' hS;refine yO rfl ?_;have HS:=yH hS;clear hS;go_wp2_with fail;all_goals first|exact HS|exact⟨rfl,HS⟩|rfl|exact⟨by omega,HS.out⟩
   case z6|z7|z8=>
    intro w' hS;refine yO rfl ?_;obtain⟨c0,c1,c2,c3,c4,c5,c6⟩:=OJ.out w' hS;have bl:=OB.out w' hS;have HS:=yH hS;clear hS;go_wp2_with fail;all_goals first|exact HS|exact⟨rfl,HS⟩|rfl|exact⟨by omega,HS.out⟩
   case z9|z10=>
    intro w' hS;refine yO rfl ?_;have hl0:=yM KFj.out.lt hS.size;have HS:=yH hS;clear hS;go_wp2_with fail;all_goals first|exact HS|exact⟨rfl,HS⟩|rfl|exact⟨by omega,HS.out⟩
   case z11|z12=>
    intro w' hS;refine yO rfl ?_;have d0_0:=(KFj.out.below hS KFj.out.lt).cell 0;have d0_1:=(KFj.out.below hS KFj.out.lt).cell 1;have d0_2:=(KFj.out.below hS KFj.out.lt).cell 2;have d0_3:=(KFj.out.below hS KFj.out.lt).cell 3;have d0_4:=(KFj.out.below hS KFj.out.lt).cell 4;simp at d0_0 d0_1 d0_2 d0_3 d0_4;have HS:=yH hS;clear hS;go_wp2_with fail;all_goals first|exact HS|exact⟨rfl,HS⟩|rfl|exact⟨by omega,HS.out⟩
   ·intro w' hS;refine yO rfl ?_;have d0_0:=(KHj.out.below hS KHj.out.lt).cell 0;have d0_1:=(KHj.out.below hS KHj.out.lt).cell 1;simp at d0_0 d0_1;have HS:=yH hS;clear hS;go_wp2_with fail;all_goals first|exact HS|exact⟨rfl,HS⟩|rfl|exact⟨by omega,HS.out⟩
   intro w' hS;refine yO rfl ?_;have HS:=yH hS;clear hS;go_wp2_with fail;refine(CM.out _ HS.out).mono ?_;rintro e w'' ⟨rfl,hb2⟩;exact⟨rfl,andB HS.out hb2⟩
  intro w2 hS2;have KFk:=yB KFj hS2;have OJk:=yH (fun w' (h:Below w2.heap.size w2 w')=>OJ.out w' (andB hS2 h));have OBk:=yH (fun w' (h:Below w2.heap.size w2 w')=>OB.out w' (andB hS2 h));have BJk:=yT BJ hS2;have Pk:=yH (Pj.out.below hS2);have Lk:=yH (Lj.out.below hS2);have KHk:=yB KHj hS2;clear hS2 KFj KHj OIj Pj Lj OJ OB BJ CM;have HKH:=yH (And.intro KHk.out.lt KFk.out.lt)
  by_cases hjm:j=m
  ·have hse:oj.se=se:=by subst hjm;exact(congrArg Of.se HOJ.out).symm.trans E1.out
   have qs:(oj.se==se)=true:=by simpa using hse
   have hnq:nv=q:=by have h1:=HNV.out;have h2:=E2.out;rw[hse]at h1;rw[←h1,h2]
   have hoo:oj=o:=by
    have h1:=FOF.out oj (HBM.out oj (by rw[←HOJ.out];exact List.getElem_mem _));rw[hse,FND.out]at h1;exact(Option.some.inj h1).symm
   subst hnq hoo;have CFr:=yH (fun w=>fair10_any (w:=w) (Jr.out.may oj (aBq FND.out).1).2.2.2.2.2 HFB.out.1.1 (by have:=HFB.out.1.2;omega) GI.out (by have:=HFB.out.2.2;omega));clear hse HNV E1 E2 E4 HBM FOF SQ hjm HE;go_wp2_with fail
   refine aBj (by kernel_rfl) [(.slice (some ⟨b,0,none⟩) os.length cap2),(.int .i64 j),(.pointer (some ⟨b,j*7,none⟩)),(.pointer (some ⟨b,j*7,none⟩)),(.int .u64 oj.se),(.pointer (some ⟨sf,0,none⟩)),(.int .u64 se),(.bool true)]
    (fun w'=>Below w2.heap.size w2 w') (by kernel_rfl) yZ.drew ?_
   intro af haf;simp only[yG,List.append_eq,List.cons_append,List.nil_append,puts,Act.put,yA,yC,yF,yD,yE]at haf;subst haf;refine⟨?_,?_⟩
   ·simp only[yG,List.append_eq,List.cons_append,List.nil_append,aBp];refine⟨?z13,?z14,?z16,?z17,?z18,?_,?_,?z15,trivial⟩
    case z13|z14|z15=>
     intro w' hS;refine yO rfl ?_;have HS:=yH hS;clear hS;go_wp2_with fail;all_goals first|exact HS|exact⟨rfl,HS⟩|rfl|exact⟨by omega,HS.out⟩
    case z16|z17|z18=>
     intro w' hS;refine yO rfl ?_;obtain⟨c0,c1,c2,c3,c4,c5,c6⟩:=OJk.out w' hS;have bl:=OBk.out w' hS;have HS:=yH hS;clear hS;go_wp2_with fail;all_goals first|exact HS|exact⟨rfl,HS⟩|rfl|exact⟨by omega,HS.out⟩
    ·intro w' hS;refine yO rfl ?_;have hl0:=yM KFk.out.lt hS.size;have HS:=yH hS;clear hS;go_wp2_with fail;all_goals first|exact HS|exact⟨rfl,HS⟩|rfl|exact⟨by omega,HS.out⟩
    intro w' hS;refine yO rfl ?_;have d0_0:=(KFk.out.below hS KFk.out.lt).cell 0;have d0_1:=(KFk.out.below hS KFk.out.lt).cell 1;have d0_2:=(KFk.out.below hS KFk.out.lt).cell 2;have d0_3:=(KFk.out.below hS KFk.out.lt).cell 3;have d0_4:=(KFk.out.below hS KFk.out.lt).cell 4;simp at d0_0 d0_1 d0_2 d0_3 d0_4;have HS:=yH hS;clear hS;go_wp2_with fail;all_goals first|exact HS|exact⟨rfl,HS⟩|rfl|exact⟨by omega,HS.out⟩
   intro w3 hS3;have KFl:=yB KFk hS3;have OJl:=yH (fun w' (h:Below w3.heap.size w3 w')=>OJk.out w' (andB hS3 h));have OBl:=yH (fun w' (h:Below w3.heap.size w3 w')=>OBk.out w' (andB hS3 h));have BJl:=yT BJk hS3;have Pl:=yH (Pk.out.below hS3);have Ll:=yH (Lk.out.below hS3);have KHl:=yB KHk hS3;clear hS3 KFk OJk OBk BJk Pk Lk KHk qs;have qn:(nv != nv)=false:=by simp
   go_wp2_with fail
   refine aBj (by kernel_rfl) [(.int .i64 nv),(.pointer (some ⟨sf,3,none⟩)),(.int .i64 nv),(.bool false),(.bool false),(.pointer (some ⟨sf,3,none⟩)),(.int .i64 nv),(.pointer (some ⟨sf,4,none⟩)),(.int .i64 x),(.slice (some ⟨b,0,none⟩) os.length cap2),(.int .i64 j),(.pointer (some ⟨b,j*7,none⟩)),(.pointer (some ⟨b,j*7+5,none⟩)),(.agg #[.int .i64 oj.nu,.int .i64 oj.de]),(.bool true),(.bool false),(.bool false)]
    (fun w'=>Below w3.heap.size w3 w') (by kernel_rfl) yZ.drew ?_
   intro af haf;simp only[yG,List.append_eq,List.cons_append,List.nil_append,puts,Act.put,yA,yC,yF,yD,yE]at haf;subst haf;refine⟨?_,?_⟩
   ·simp only[yG,List.append_eq,List.cons_append,List.nil_append,aBp];refine⟨?z19,?_,?_,?z20,?z21,?z23,?z25,?z24,?z26,?z27,?z28,?z30,?z31,?z32,?_,?z29,?z22,trivial⟩
    case z19|z20|z21|z22=>
     intro w' hS;refine yO rfl ?_;have HS:=yH hS;clear hS;go_wp2_with fail;all_goals first|exact HS|exact⟨rfl,HS⟩|rfl|exact⟨by omega,HS.out⟩
    case z23|z24=>
     intro w' hS;refine OpTo.wanted ?_ ?_
     kernel_rfl
     have hl0:=yM KFl.out.lt hS.size;have HS:=yH hS;clear hS;go_wp2_with fail;all_goals first|exact HS|exact⟨rfl,HS⟩|rfl|exact⟨by omega,HS.out⟩
    case z25|z26=>
     intro w' hS;refine OpTo.wanted ?_ ?_
     kernel_rfl
     have d0_0:=(KFl.out.below hS KFl.out.lt).cell 0;have d0_1:=(KFl.out.below hS KFl.out.lt).cell 1;have d0_2:=(KFl.out.below hS KFl.out.lt).cell 2;have d0_3:=(KFl.out.below hS KFl.out.lt).cell 3;have d0_4:=(KFl.out.below hS KFl.out.lt).cell 4;simp at d0_0 d0_1 d0_2 d0_3 d0_4;have HS:=yH hS;clear hS;go_wp2_with fail;all_goals first|exact HS|exact⟨rfl,HS⟩|rfl|exact⟨by omega,HS.out⟩
    case z27|z28|z29=>
     intro w' hS;refine OpTo.wanted ?_ ?_
     kernel_rfl
     have HS:=yH hS;clear hS;go_wp2_with fail;all_goals first|exact HS|exact⟨rfl,HS⟩|rfl|exact⟨by omega,HS.out⟩
    case z30|z31|z32=>
     intro w' hS;refine OpTo.wanted ?_ ?_
     kernel_rfl
     obtain⟨c0,c1,c2,c3,c4,c5,c6⟩:=OJl.out w' hS;have bl:=OBl.out w' hS;have HS:=yH hS;clear hS;go_wp2_with fail;all_goals first|exact HS|exact⟨rfl,HS⟩|rfl|exact⟨by omega,HS.out⟩
    ·intro w' hS;refine yO rfl ?_;have hl0:=yM KFl.out.lt hS.size;have HS:=yH hS;clear hS;go_wp2_with fail;all_goals first|exact HS|exact⟨rfl,HS⟩|rfl|exact⟨by omega,HS.out⟩
    ·intro w' hS;refine yO rfl ?_;have d0_0:=(KFl.out.below hS KFl.out.lt).cell 0;have d0_1:=(KFl.out.below hS KFl.out.lt).cell 1;have d0_2:=(KFl.out.below hS KFl.out.lt).cell 2;have d0_3:=(KFl.out.below hS KFl.out.lt).cell 3;have d0_4:=(KFl.out.below hS KFl.out.lt).cell 4;simp at d0_0 d0_1 d0_2 d0_3 d0_4;have HS:=yH hS;clear hS;go_wp2_with fail;all_goals first|exact HS|exact⟨rfl,HS⟩|rfl|exact⟨by omega,HS.out⟩
    intro w' hS;refine OpTo.wanted ?_ ?_
    kernel_rfl
    have HS:=yH hS;clear hS;go_wp2_with fail;refine(CFr.out _).mono ?_;rintro e w'' ⟨rfl,hb2⟩;exact⟨rfl,andB HS.out hb2⟩
   intro w4 hS4;have KF4:=yB KFl hS4;have BJ4:=yT BJl hS4;have P4:=yH (Pl.out.below hS4);have L4:=yH (Ll.out.below hS4);have KH4:=yB KHl hS4;clear hS4 KFl OJl OBl BJl Pl Ll KHl CFr;have CDo:=yH (aId HD L4.out Ir.out P4.out Jr.out se tk pt nv (by have h1:=Jr.out.bd oj (aBq FND.out).1;have h2:=Jr.out.n2;have h3:=(aBq FND.out).2;omega) HT_.out HP_.out (by have:=HFB.out.1;unfold In64;omega));have f0:=KF4.out.cell 0;have f1:=KF4.out.cell 1;have f2:=KF4.out.cell 2;have f3:=KF4.out.cell 3;have f4:=KF4.out.cell 4;have fl:=KF4.out.lt;have h0:=KH4.out.cell 0;have h1:=KH4.out.cell 1;have hl:=KH4.out.lt;simp at f0 f1 f2 f3 f4 h0 h1;go_wp2_with fail;refine CDo.out.mono ?_;rintro e w5 hd;clear f0 f1 f2 f3 f4 fl h0 h1 hl CDo;rcases hd with⟨hno,_⟩|⟨_,o',x',vb',ho',hx',rfl,hL',hP',hk',hmv⟩
   ·exact absurd OK.out.1 hno
   rw[FND.out]at ho'
   cases ho'
   obtain rfl:x=x':=GI.out.trans hx'.symm;have hge:=GE.out;have hws:=HWS.out;have hsf:=HSF.out;have hk6:=Kr.out.size;have hvl:=Vr.out;have hvs:=fun j (hj:vb.ownBlock=some j)=>(P4.out.lt (b:=j) (.inr hj)).1
   have hvw:=VW.out;have KF5:=yH (KF4.out.keep hk' (fun h=>by rcases h with h|h|h|h <;> first|omega|(have:=hvw _ h;omega)));have KH5:=yH (KH4.out.keep hk' (fun h=>by rcases h with h|h|h|h <;> first|omega|(have:=hvl _ h;omega)));have B95:=yH (B9.out.trans (BJ4.out.mono (by have:=B9.out.size;omega)))
   have K5:=yH ((Kr.out.trans (pAE (S:=fun j=>W.heap.size≤j∧j<wc.heap.size) (by rw[HSF.out];exact B95.out))).trans_new hk' (by
    intro j hj h;rcases h with h|h|h|h
    ·omega
    ·omega
    ·omega
    have e1:=hvl j h;have e2:=hvs j h;omega))
   have V5:=yH (show ∀b,vb'.ownBlock=some b→b<wc.heap.size∨W6.heap.size≤b from fun j hj=>by
    rcases hmv j hj with h|h
    ·exact hvl j h
    have:=B95.out.size;exact .inr (by omega))
   have bg:=(Below.refl w5.heap.size w5).alloc yL (.cells #[.int .u64 se,.int .u8 tk,.int .u8 pt,.int .i64 nv,.int .i64 x] 73);have KG:=yH (pAA w5 #[.int .u64 se,.int .u8 tk,.int .u8 pt,.int .i64 nv,.int .i64 x] 73);have KF6:=yB KF5 bg;have L6:=yH (hL'.below bg);have P6:=yH (hP'.below bg);have K6:=yH (K5.out.trans (pAE (S:=fun j=>W.heap.size≤j∧j<wc.heap.size) bg));have I6:=yH (aJf Ir.out oj tk pt nv x);have J6:=yH (Jr.out.take se nv);clear bg hL' hP' hk' hmv hx' hge hws hsf hk6 hvl hvs hvw KF4 KH4 KF5 KH5 B95 K5 L4 P4 BJ4
   go_upto_region 19 with fail
   generalize w5.alloc (.cells #[.int .u64 se,.int .u8 tk,.int .u8 pt,.int .i64 nv,.int .i64 x] 73)=w6 at *;have f0:=KF6.out.cell 0;have f1:=KF6.out.cell 1;have f2:=KF6.out.cell 2;have f3:=KF6.out.cell 3;have f4:=KF6.out.cell 4;have fl:=KF6.out.lt;have g0:=KG.out.cell 0;have g1:=KG.out.cell 1;have g2:=KG.out.cell 2;have g3:=KG.out.cell 3;have g4:=KG.out.cell 4;have gl:=KG.out.lt;simp at f0 f1 f2 f3 f4 g0 g1 g2 g3 g4;have ql:((os.length:Int)==0)=false:=beq_eq_false_iff_ne.2 (by have:=HM.out;omega);have hb1:=BDr.out;have hb2:=HLEN.out;have hb3:=HKL.out;have hb4:=HFB.out;have R6:=RST.out
   cases falls with
   | true=>
    simp only[if_true]at R6;have RS:=yH R6;clear R6;go_wp2_with fail;exact⟨⟨k+1,_,_,wn,mo - x,vb',by omega,by go_num,rfl,rfl,L6.out,I6.out,P6.out,J6.out,V5.out,K6.out,by omega,yH RS.out⟩,by simp[intOf];omega⟩
   | false=>
    simp only[Bool.false_eq_true,if_false]at R6;have RS:=yH R6;clear R6;go_wp2_with fail;exact⟨⟨k+1,_,_,wn - nv,mo,vb',by omega,by go_num,rfl,rfl,L6.out,I6.out,P6.out,J6.out,V5.out,K6.out,by omega,yH RS.out⟩,by simp[intOf];omega⟩
  have hlt:¬0<nv:=by
   have h1:=E4.out j (by have:=HJM.out;omega);have h2:os[j].se=oj.se:=congrArg Of.se HOJ.out;have h3:=HNV.out;rw[←h3,←h2];omega
  have h0n:nv=0:=by
   have h1:=(mayS_nn Ir.out Jr.out tk pt wn mo oj.se).1;rw[HNV.out]at h1;omega
  have hse:¬oj.se=se:=fun h=>by
   have h1:=E2.out;rw[←h,HNV.out]at h1;have:=E3.out;omega
  have qs:(oj.se==se)=false:=by simpa using hse
  subst h0n;have HJN:=yH hjm;clear hse hlt hjm;go_wp2_with fail
  refine aBj (by kernel_rfl) [(.slice (some ⟨b,0,none⟩) os.length cap2),(.int .i64 j),(.pointer (some ⟨b,j*7,none⟩)),(.pointer (some ⟨b,j*7,none⟩)),(.int .u64 oj.se),(.pointer (some ⟨sf,0,none⟩)),(.int .u64 se),(.bool false)]
   (fun w'=>Below w2.heap.size w2 w') (by kernel_rfl) yZ.drew ?_
  intro af haf;simp only[yG,List.append_eq,List.cons_append,List.nil_append,puts,Act.put,yA,yC,yF,yD,yE]at haf;subst haf;refine⟨?_,?_⟩
  ·simp only[yG,List.append_eq,List.cons_append,List.nil_append,aBp];refine⟨?z33,?z34,?z36,?z37,?z38,?_,?_,?z35,trivial⟩
   case z33|z34|z35=>
    intro w' hS;refine yO rfl ?_;have HS:=yH hS;clear hS;go_wp2_with fail;all_goals first|exact HS|exact⟨rfl,HS⟩|rfl|exact⟨by omega,HS.out⟩
   case z36|z37|z38=>
    intro w' hS;refine yO rfl ?_;obtain⟨c0,c1,c2,c3,c4,c5,c6⟩:=OJk.out w' hS;have bl:=OBk.out w' hS;have HS:=yH hS;clear hS;go_wp2_with fail;all_goals first|exact HS|exact⟨rfl,HS⟩|rfl|exact⟨by omega,HS.out⟩
   ·intro w' hS;refine yO rfl ?_;have hl0:=yM KFk.out.lt hS.size;have HS:=yH hS;clear hS;go_wp2_with fail;all_goals first|exact HS|exact⟨rfl,HS⟩|rfl|exact⟨by omega,HS.out⟩
   intro w' hS;refine yO rfl ?_;have d0_0:=(KFk.out.below hS KFk.out.lt).cell 0;have d0_1:=(KFk.out.below hS KFk.out.lt).cell 1;have d0_2:=(KFk.out.below hS KFk.out.lt).cell 2;have d0_3:=(KFk.out.below hS KFk.out.lt).cell 3;have d0_4:=(KFk.out.below hS KFk.out.lt).cell 4;simp at d0_0 d0_1 d0_2 d0_3 d0_4;have HS:=yH hS;clear hS;go_wp2_with fail;all_goals first|exact HS|exact⟨rfl,HS⟩|rfl|exact⟨by omega,HS.out⟩
  intro w3 hS3;have BJl:=yT BJk hS3;clear hS3 KFk OJk OBk BJk Pk Lk KHk qs;have qz:((0:Int) != 0)=false:=by decide
  have qe:((j:Int)==(os.length:Int) - 1)=false:=by have:=HM.out;have:=HJM.out;have:=HJN.out;simp;omega
  go_wp2_with fail;exact⟨⟨j+1,by have:=HJM.out;have:=HJN.out;omega,by go_num,BJl.out⟩,by simp[intOf];have:=HJL.out;omega⟩
 have hkn:k=fs.length:=by omega
 have HE2:=HE.out;rw[hkn,List.drop_length]at HE2;obtain⟨el,eo⟩:=HE2;subst hkn el eo;have q0:decide (((fs.length:Nat):Int)<(fs.length:Int))=false:=by simp
 have HN:=yH (show ls.length≤100000000∧l.length≤32 from⟨by have:=Ir.out.len;omega,Jr.out.len⟩);clear HE HFS HXX;go_wp2_with fail
 have hlasts:∀q∈([(2,(fun v w=>aCg w v 5 ls.length (aAt ls))),(5,(fun v w=>aCg w v 5 ls.length (aAt ls))),(10,(fun v w=>aCg w v 7 l.length (aAa l))),(13,(fun v w=>aCg w v 7 l.length (aAa l)))]:List (Nat×(Value→World→Prop))),Lasts q.2:=by
  intro q hq;simp only[yI,yJ,or_false]at hq;rcases hq with rfl|rfl|rfl|rfl
  ·exact fun v w w' h k=>h.below k
  ·exact fun v w w' h k=>h.below k
  ·exact fun v w w' h k=>h.below k
  exact fun v w w' h k=>h.below k
 have HL:=yH hlasts;clear hlasts
 refine aLt (by kernel_rfl) (fun s:Nat→Value=>[(.pointer (some ⟨wc.heap.size,0,none⟩)),(.pointer (some ⟨G1,0,none⟩)),s 2,(.pointer (some ⟨w.heap.size+1,0,none⟩)),(.pointer (some ⟨G2,0,none⟩)),s 5,(.bool true),(.bool true),(.pointer (some ⟨wc.heap.size,1,none⟩)),(.pointer (some ⟨gb1,0,none⟩)),s 10,(.pointer (some ⟨w.heap.size+1,1,none⟩)),(.pointer (some ⟨gb2,0,none⟩)),s 13,(.bool true),(.bool true),(.bool true)])
  (Got wr [(2,(fun v w=>aCg w v 5 ls.length (aAt ls))),(5,(fun v w=>aCg w v 5 ls.length (aAt ls))),(10,(fun v w=>aCg w v 7 l.length (aAa l))),(13,(fun v w=>aCg w v 7 l.length (aAa l)))]) (by kernel_rfl) (fun _=>undef) (Got.start _ _ _) ?_
 intro AF hAF;simp only[yG,puts,Act.put,yA,yC,yF,yD,yE]at hAF;have hAF2:_=AF:=funext hAF;subst hAF2;clear hAF;refine⟨?_,?_⟩
 ·simp only[yG,EachF];refine⟨?_,?_,?_,?_,?_,?_,?_,?_,?_,?_,?_,?_,?_,?_,?_,?_,?_,trivial⟩
  ·intro s D w' hD hW hC hI;have hS:=hI.below;refine .inl ⟨s,fun _ _ _=>rfl,?_⟩;with_reducible refine yO rfl ?_
   have hl0:=yM KHr.out.lt hS.size;have HS:=yH (hI.step HL.out yZ (k:=0) (by intro q hq;simp only[yI,yJ,or_false]at hq;rcases hq with rfl|rfl|rfl|rfl <;> first|exact(show(2:Nat)≠0 by decide)|exact(show(5:Nat)≠0 by decide)|exact(show(10:Nat)≠0 by decide)|exact(show(13:Nat)≠0 by decide)));clear hI hS hC hW hD;go_wp2_with fail;all_goals first|exact HS|exact⟨rfl,HS⟩|rfl
  ·intro s D w' hD hW hC hI;have hS:=hI.below;refine .inl ⟨s,fun _ _ _=>rfl,?_⟩;with_reducible refine yO rfl ?_
   have hl0:=yM KHr.out.lt hS.size;have d0_0:=(KHr.out.below hS KHr.out.lt).cell 0;have d0_1:=(KHr.out.below hS KHr.out.lt).cell 1;simp at d0_0 d0_1;have HS:=yH (hI.step HL.out yZ (k:=1) (by intro q hq;simp only[yI,yJ,or_false]at hq;rcases hq with rfl|rfl|rfl|rfl <;> first|exact(show(2:Nat)≠1 by decide)|exact(show(5:Nat)≠1 by decide)|exact(show(10:Nat)≠1 by decide)|exact(show(13:Nat)≠1 by decide)));clear hI hS hC hW hD;go_wp2_with fail;all_goals first|exact HS|exact⟨rfl,HS⟩|rfl
  ·intro s D w' hD hW hC hI;have hS:=hI.below;have HI:=yH hI;have HCl:=yH hC;have HD:=yH hD;have HC:=yH (aKh (Lr.out.below hS) Ir.out);refine .inr ?_;with_reducible refine aDm.plain ?_ ?_
   exact rfl;clear hI hS hC hW hD;go_wp2_with fail;refine HC.out.mono ?_;rintro e w'' ⟨v,rfl,hv,hb2⟩;refine⟨v,rfl,updV s 2 v,aH1 _ (fun s:Nat→Value=>[(.pointer (some ⟨wc.heap.size,0,none⟩)),(.pointer (some ⟨G1,0,none⟩)),s 2,(.pointer (some ⟨w.heap.size+1,0,none⟩)),(.pointer (some ⟨G2,0,none⟩)),s 5,(.bool true),(.bool true),(.pointer (some ⟨wc.heap.size,1,none⟩)),(.pointer (some ⟨gb1,0,none⟩)),s 10,(.pointer (some ⟨w.heap.size+1,1,none⟩)),(.pointer (some ⟨gb2,0,none⟩)),s 13,(.bool true),(.bool true),(.bool true)]) s 2 v HCl.out HD.out ?_,rfl,HI.out.put HL.out hb2 ?_⟩
   ·intro j hj
    match j,hj with
    | 0,_=>exact .inr rfl
    | 1,_=>exact .inr rfl
    | 2,_=>exact .inl (.inl rfl)
    | 3,_=>exact .inr rfl
    | 4,_=>exact .inr rfl
    | 5,_=>exact .inr rfl
    | 6,_=>exact .inr rfl
    | 7,_=>exact .inr rfl
    | 8,_=>exact .inr rfl
    | 9,_=>exact .inr rfl
    | 10,_=>exact .inr rfl
    | 11,_=>exact .inr rfl
    | 12,_=>exact .inr rfl
    | 13,_=>exact .inr rfl
    | 14,_=>exact .inr rfl
    | 15,_=>exact .inr rfl
    | 16,_=>exact .inr rfl
    | j+17,_=>exact .inr rfl
   intro q hq he;simp only[yI,yJ,or_false]at hq;rcases hq with rfl|rfl|rfl|rfl <;> first|exact hv.reads HN.out.1|exact absurd (show(5:Nat)=2 from he) (by decide)|exact absurd (show(10:Nat)=2 from he) (by decide)|exact absurd (show(13:Nat)=2 from he) (by decide)
  ·intro s D w' hD hW hC hI;have hS:=hI.below;refine .inl ⟨s,fun _ _ _=>rfl,?_⟩;with_reducible refine yO rfl ?_
   have hl0:=yM KAr.out.lt hS.size;have HS:=yH (hI.step HL.out yZ (k:=3) (by intro q hq;simp only[yI,yJ,or_false]at hq;rcases hq with rfl|rfl|rfl|rfl <;> first|exact(show(2:Nat)≠3 by decide)|exact(show(5:Nat)≠3 by decide)|exact(show(10:Nat)≠3 by decide)|exact(show(13:Nat)≠3 by decide)));clear hI hS hC hW hD;go_wp2_with fail;all_goals first|exact HS|exact⟨rfl,HS⟩|rfl
  ·intro s D w' hD hW hC hI;have hS:=hI.below;refine .inl ⟨s,fun _ _ _=>rfl,?_⟩;with_reducible refine yO rfl ?_
   have hl0:=yM KAr.out.lt hS.size;have d0_0:=(KAr.out.below hS KAr.out.lt).cell 0;have d0_1:=(KAr.out.below hS KAr.out.lt).cell 1;simp at d0_0 d0_1;have HS:=yH (hI.step HL.out yZ (k:=4) (by intro q hq;simp only[yI,yJ,or_false]at hq;rcases hq with rfl|rfl|rfl|rfl <;> first|exact(show(2:Nat)≠4 by decide)|exact(show(5:Nat)≠4 by decide)|exact(show(10:Nat)≠4 by decide)|exact(show(13:Nat)≠4 by decide)));clear hI hS hC hW hD;go_wp2_with fail;all_goals first|exact HS|exact⟨rfl,HS⟩|rfl
  ·intro s D w' hD hW hC hI;have hS:=hI.below;have HI:=yH hI;have HCl:=yH hC;have HD:=yH hD;have HC:=yH (aKh (LAr.out.below hS) Ir.out);refine .inr ?_;with_reducible refine aDm.plain ?_ ?_
   exact rfl;clear hI hS hC hW hD;go_wp2_with fail;refine HC.out.mono ?_;rintro e w'' ⟨v,rfl,hv,hb2⟩;refine⟨v,rfl,updV s 5 v,aH1 _ (fun s:Nat→Value=>[(.pointer (some ⟨wc.heap.size,0,none⟩)),(.pointer (some ⟨G1,0,none⟩)),s 2,(.pointer (some ⟨w.heap.size+1,0,none⟩)),(.pointer (some ⟨G2,0,none⟩)),s 5,(.bool true),(.bool true),(.pointer (some ⟨wc.heap.size,1,none⟩)),(.pointer (some ⟨gb1,0,none⟩)),s 10,(.pointer (some ⟨w.heap.size+1,1,none⟩)),(.pointer (some ⟨gb2,0,none⟩)),s 13,(.bool true),(.bool true),(.bool true)]) s 5 v HCl.out HD.out ?_,rfl,HI.out.put HL.out hb2 ?_⟩
   ·intro j hj
    match j,hj with
    | 0,_=>exact .inr rfl
    | 1,_=>exact .inr rfl
    | 2,_=>exact .inr rfl
    | 3,_=>exact .inr rfl
    | 4,_=>exact .inr rfl
    | 5,_=>exact .inl (.inl rfl)
    | 6,_=>exact .inr rfl
    | 7,_=>exact .inr rfl
    | 8,_=>exact .inr rfl
    | 9,_=>exact .inr rfl
    | 10,_=>exact .inr rfl
    | 11,_=>exact .inr rfl
    | 12,_=>exact .inr rfl
    | 13,_=>exact .inr rfl
    | 14,_=>exact .inr rfl
    | 15,_=>exact .inr rfl
    | 16,_=>exact .inr rfl
    | j+17,_=>exact .inr rfl
   intro q hq he;simp only[yI,yJ,or_false]at hq;rcases hq with rfl|rfl|rfl|rfl <;> first|exact hv.reads HN.out.1|exact absurd (show(2:Nat)=5 from he) (by decide)|exact absurd (show(10:Nat)=5 from he) (by decide)|exact absurd (show(13:Nat)=5 from he) (by decide)
  ·intro s D w' hD hW hC hI;have hS:=hI.below;refine .inl ⟨s,fun _ _ _=>rfl,?_⟩;with_reducible refine yO rfl ?_
   have hP2:D 2=true:=aBl hC hW (by kernel_rfl);have hq2:=hI.at (2,(fun v w=>aCg w v 5 ls.length (aAt ls))) (by simp) hP2;dsimp only at hq2;have hP5:D 5=true:=aBl hC hW (by kernel_rfl);have hq5:=hI.at (5,(fun v w=>aCg w v 5 ls.length (aAt ls))) (by simp) hP5;dsimp only at hq5;have HI:=yH hI;have HC:=yH ((by have q:=aLb hq2 hq5;rw[decide_eq_true rfl]at q;exact q:Calls Tryz.prog 18 #[s 2,s 5] w' fun e w''=>e=.returned (.bool true)∧Below w'.heap.size w' w''));clear hI hS hC hW hD hP2 hq2 hP5 hq5;go_wp2_with fail;refine HC.out.mono ?_;rintro e w'' ⟨rfl,hb2⟩;exact⟨rfl,HI.out.step HL.out hb2 (by intro q hq;simp only[yI,yJ,or_false]at hq;rcases hq with rfl|rfl|rfl|rfl <;> first|exact(show(2:Nat)≠6 by decide)|exact(show(5:Nat)≠6 by decide)|exact(show(10:Nat)≠6 by decide)|exact(show(13:Nat)≠6 by decide))⟩
  ·intro s D w' hD hW hC hI;have hS:=hI.below;refine .inl ⟨s,fun _ _ _=>rfl,?_⟩;with_reducible refine yO rfl ?_
   have HS:=yH (hI.step HL.out yZ (k:=7) (by intro q hq;simp only[yI,yJ,or_false]at hq;rcases hq with rfl|rfl|rfl|rfl <;> first|exact(show(2:Nat)≠7 by decide)|exact(show(5:Nat)≠7 by decide)|exact(show(10:Nat)≠7 by decide)|exact(show(13:Nat)≠7 by decide)));clear hI hS hC hW hD;go_wp2_with fail;all_goals first|exact HS|exact⟨rfl,HS⟩|rfl
  ·intro s D w' hD hW hC hI;have hS:=hI.below;refine .inl ⟨s,fun _ _ _=>rfl,?_⟩;with_reducible refine OpTo.wanted ?_ ?_
   kernel_rfl
   have hl0:=yM KHr.out.lt hS.size;have HS:=yH (hI.step HL.out yZ (k:=8) (by intro q hq;simp only[yI,yJ,or_false]at hq;rcases hq with rfl|rfl|rfl|rfl <;> first|exact(show(2:Nat)≠8 by decide)|exact(show(5:Nat)≠8 by decide)|exact(show(10:Nat)≠8 by decide)|exact(show(13:Nat)≠8 by decide)));clear hI hS hC hW hD;go_wp2_with fail;all_goals first|exact HS|exact⟨rfl,HS⟩|rfl
  ·intro s D w' hD hW hC hI;have hS:=hI.below;refine .inl ⟨s,fun _ _ _=>rfl,?_⟩;with_reducible refine OpTo.wanted ?_ ?_
   kernel_rfl
   have hl0:=yM KHr.out.lt hS.size;have d0_0:=(KHr.out.below hS KHr.out.lt).cell 0;have d0_1:=(KHr.out.below hS KHr.out.lt).cell 1;simp at d0_0 d0_1;have HS:=yH (hI.step HL.out yZ (k:=9) (by intro q hq;simp only[yI,yJ,or_false]at hq;rcases hq with rfl|rfl|rfl|rfl <;> first|exact(show(2:Nat)≠9 by decide)|exact(show(5:Nat)≠9 by decide)|exact(show(10:Nat)≠9 by decide)|exact(show(13:Nat)≠9 by decide)));clear hI hS hC hW hD;go_wp2_with fail;all_goals first|exact HS|exact⟨rfl,HS⟩|rfl
  ·intro s D w' hD hW hC hI;have hS:=hI.below;have HI:=yH hI;have HCl:=yH hC;have HD:=yH hD;have HC:=yH (pall_any (Pr.out.below hS) (by have:=HN.out.2;omega));refine .inr ?_;with_reducible refine aDm.wanted ?_ ?_
   kernel_rfl
   clear hI hS hC hW hD;go_wp2_with fail;refine HC.out.mono ?_;rintro e w'' ⟨v,rfl,hv,hb2⟩;refine⟨v,rfl,updV s 10 v,aH1 _ (fun s:Nat→Value=>[(.pointer (some ⟨wc.heap.size,0,none⟩)),(.pointer (some ⟨G1,0,none⟩)),s 2,(.pointer (some ⟨w.heap.size+1,0,none⟩)),(.pointer (some ⟨G2,0,none⟩)),s 5,(.bool true),(.bool true),(.pointer (some ⟨wc.heap.size,1,none⟩)),(.pointer (some ⟨gb1,0,none⟩)),s 10,(.pointer (some ⟨w.heap.size+1,1,none⟩)),(.pointer (some ⟨gb2,0,none⟩)),s 13,(.bool true),(.bool true),(.bool true)]) s 10 v HCl.out HD.out ?_,rfl,HI.out.put HL.out hb2 ?_⟩
   ·intro j hj
    match j,hj with
    | 0,_=>exact .inr rfl
    | 1,_=>exact .inr rfl
    | 2,_=>exact .inr rfl
    | 3,_=>exact .inr rfl
    | 4,_=>exact .inr rfl
    | 5,_=>exact .inr rfl
    | 6,_=>exact .inr rfl
    | 7,_=>exact .inr rfl
    | 8,_=>exact .inr rfl
    | 9,_=>exact .inr rfl
    | 10,_=>exact .inl (.inl rfl)
    | 11,_=>exact .inr rfl
    | 12,_=>exact .inr rfl
    | 13,_=>exact .inr rfl
    | 14,_=>exact .inr rfl
    | 15,_=>exact .inr rfl
    | 16,_=>exact .inr rfl
    | j+17,_=>exact .inr rfl
   intro q hq he;simp only[yI,yJ,or_false]at hq;rcases hq with rfl|rfl|rfl|rfl <;> first|exact hv.reads (by have:=HN.out.2;omega)|exact absurd (show(2:Nat)=10 from he) (by decide)|exact absurd (show(5:Nat)=10 from he) (by decide)|exact absurd (show(13:Nat)=10 from he) (by decide)
  ·intro s D w' hD hW hC hI;have hS:=hI.below;refine .inl ⟨s,fun _ _ _=>rfl,?_⟩;with_reducible refine OpTo.wanted ?_ ?_
   kernel_rfl
   have hl0:=yM KAr.out.lt hS.size;have HS:=yH (hI.step HL.out yZ (k:=11) (by intro q hq;simp only[yI,yJ,or_false]at hq;rcases hq with rfl|rfl|rfl|rfl <;> first|exact(show(2:Nat)≠11 by decide)|exact(show(5:Nat)≠11 by decide)|exact(show(10:Nat)≠11 by decide)|exact(show(13:Nat)≠11 by decide)));clear hI hS hC hW hD;go_wp2_with fail;all_goals first|exact HS|exact⟨rfl,HS⟩|rfl
  ·intro s D w' hD hW hC hI;have hS:=hI.below;refine .inl ⟨s,fun _ _ _=>rfl,?_⟩;with_reducible refine OpTo.wanted ?_ ?_
   kernel_rfl
   have hl0:=yM KAr.out.lt hS.size;have d0_0:=(KAr.out.below hS KAr.out.lt).cell 0;have d0_1:=(KAr.out.below hS KAr.out.lt).cell 1;simp at d0_0 d0_1;have HS:=yH (hI.step HL.out yZ (k:=12) (by intro q hq;simp only[yI,yJ,or_false]at hq;rcases hq with rfl|rfl|rfl|rfl <;> first|exact(show(2:Nat)≠12 by decide)|exact(show(5:Nat)≠12 by decide)|exact(show(10:Nat)≠12 by decide)|exact(show(13:Nat)≠12 by decide)));clear hI hS hC hW hD;go_wp2_with fail;all_goals first|exact HS|exact⟨rfl,HS⟩|rfl
  ·intro s D w' hD hW hC hI;have hS:=hI.below;have HI:=yH hI;have HCl:=yH hC;have HD:=yH hD;have HC:=yH (pall_any (PAr.out.below hS) (by have:=HN.out.2;omega));refine .inr ?_;with_reducible refine aDm.wanted ?_ ?_
   kernel_rfl
   clear hI hS hC hW hD;go_wp2_with fail;refine HC.out.mono ?_;rintro e w'' ⟨v,rfl,hv,hb2⟩;refine⟨v,rfl,updV s 13 v,aH1 _ (fun s:Nat→Value=>[(.pointer (some ⟨wc.heap.size,0,none⟩)),(.pointer (some ⟨G1,0,none⟩)),s 2,(.pointer (some ⟨w.heap.size+1,0,none⟩)),(.pointer (some ⟨G2,0,none⟩)),s 5,(.bool true),(.bool true),(.pointer (some ⟨wc.heap.size,1,none⟩)),(.pointer (some ⟨gb1,0,none⟩)),s 10,(.pointer (some ⟨w.heap.size+1,1,none⟩)),(.pointer (some ⟨gb2,0,none⟩)),s 13,(.bool true),(.bool true),(.bool true)]) s 13 v HCl.out HD.out ?_,rfl,HI.out.put HL.out hb2 ?_⟩
   ·intro j hj
    match j,hj with
    | 0,_=>exact .inr rfl
    | 1,_=>exact .inr rfl
    | 2,_=>exact .inr rfl
    | 3,_=>exact .inr rfl
    | 4,_=>exact .inr rfl
    | 5,_=>exact .inr rfl
    | 6,_=>exact .inr rfl
    | 7,_=>exact .inr rfl
    | 8,_=>exact .inr rfl
    | 9,_=>exact .inr rfl
    | 10,_=>exact .inr rfl
    | 11,_=>exact .inr rfl
    | 12,_=>exact .inr rfl
    | 13,_=>exact .inl (.inl rfl)
    | 14,_=>exact .inr rfl
    | 15,_=>exact .inr rfl
    | 16,_=>exact .inr rfl
    | j+17,_=>exact .inr rfl
   intro q hq he;simp only[yI,yJ,or_false]at hq;rcases hq with rfl|rfl|rfl|rfl <;> first|exact hv.reads (by have:=HN.out.2;omega)|exact absurd (show(2:Nat)=13 from he) (by decide)|exact absurd (show(5:Nat)=13 from he) (by decide)|exact absurd (show(10:Nat)=13 from he) (by decide)
  ·intro s D w' hD hW hC hI;have hS:=hI.below;refine .inl ⟨s,fun _ _ _=>rfl,?_⟩;with_reducible refine OpTo.wanted ?_ ?_
   kernel_rfl
   have hP10:D 10=true:=aBl hC hW (by kernel_rfl);have hq10:=hI.at (10,(fun v w=>aCg w v 7 l.length (aAa l))) (by simp) hP10;dsimp only at hq10;have hP13:D 13=true:=aBl hC hW (by kernel_rfl);have hq13:=hI.at (13,(fun v w=>aCg w v 7 l.length (aAa l))) (by simp) hP13;dsimp only at hq13;have HI:=yH hI;have HC:=yH ((by have q:=aJq hq10 hq13;rw[decide_eq_true rfl]at q;exact q:Calls Tryz.prog 20 #[s 10,s 13] w' fun e w''=>e=.returned (.bool true)∧Below w'.heap.size w' w''));clear hI hS hC hW hD hP10 hq10 hP13 hq13;go_wp2_with fail;refine HC.out.mono ?_;rintro e w'' ⟨rfl,hb2⟩;exact⟨rfl,HI.out.step HL.out hb2 (by intro q hq;simp only[yI,yJ,or_false]at hq;rcases hq with rfl|rfl|rfl|rfl <;> first|exact(show(2:Nat)≠14 by decide)|exact(show(5:Nat)≠14 by decide)|exact(show(10:Nat)≠14 by decide)|exact(show(13:Nat)≠14 by decide))⟩
  ·intro s D w' hD hW hC hI;have hS:=hI.below;refine .inl ⟨s,fun _ _ _=>rfl,?_⟩;with_reducible refine yO rfl ?_
   have HS:=yH (hI.step HL.out yZ (k:=15) (by intro q hq;simp only[yI,yJ,or_false]at hq;rcases hq with rfl|rfl|rfl|rfl <;> first|exact(show(2:Nat)≠15 by decide)|exact(show(5:Nat)≠15 by decide)|exact(show(10:Nat)≠15 by decide)|exact(show(13:Nat)≠15 by decide)));clear hI hS hC hW hD;go_wp2_with fail;all_goals first|exact HS|exact⟨rfl,HS⟩|rfl
  intro s D w' hD hW hC hI;have hS:=hI.below;refine .inl ⟨s,fun _ _ _=>rfl,?_⟩;with_reducible refine yO rfl ?_
  have HS:=yH (hI.step HL.out yZ (k:=16) (by intro q hq;simp only[yI,yJ,or_false]at hq;rcases hq with rfl|rfl|rfl|rfl <;> first|exact(show(2:Nat)≠16 by decide)|exact(show(5:Nat)≠16 by decide)|exact(show(10:Nat)≠16 by decide)|exact(show(13:Nat)≠16 by decide)));clear hI hS hC hW hD;go_wp2_with fail;all_goals first|exact HS|exact⟨rfl,HS⟩|rfl
 intro s D w2 hall hI;have BE:=yH (BB.out.trans (hI.below.mono BB.out.size));clear hall hI;go_wp2_with fail;go_ret;exact⟨rfl,BE.out⟩
end Go.Proofs.YtaeocliklpcgmaaGreat
