/- Pieces of one proof. -/
import Derived.Test.YtaeocliklpcgmaaGreatP17
import Derived.Laws.AppendOwnNone
set_option linter.all false
set_option maxHeartbeats 64000000
set_option maxRecDepth 100000
namespace Go.Proofs.YtaeocliklpcgmaaGreat
open Go.RowKit
def GOf5(w:World)(f:Int→Int→Int)(m:Nat)(wr:World):Prop:=∃vl,RefG wr w.heap.size w.heap.size (aF7 f m) vl∧Below w.heap.size w wr
def GOf5O(w:World)(f:Int→Int→Int)(i:Value)(wr:World):Prop:=∃(p:Nat) (P:Int),Hid (P=(p:Int)+1)∧1≤P∧P≤17∧i=.int .u8 P∧GOf5 w f (p*16) wr
def GOf5I(w:World)(f:Int→Int→Int)(p:Nat)(i:Value)(wr:World):Prop:=∃(q:Nat) (Q:Int),Hid (Q=(q:Int)+1)∧1≤Q∧Q≤17∧i=.int .u8 Q∧GOf5 w f (p*16+q) wr
theorem rgof_any{w:World}{base g:Nat}{ps:List Int}{ls:List Ln}{vp vl:Value}(h:RefL w base g ps ls vp vl)(hI:LInv ps ls)(c:Int):
  Calls Tryz.prog 156 #[.pointer (some ⟨g,0,none⟩),.int .u8 c] w fun e w'=>e=.returned (.pointer (some ⟨w.heap.size,0,none⟩))∧∃vl',RefG w' w.heap.size w.heap.size (allE (aB1 ps ls c)) vl'∧Below w.heap.size w w':=by
 have CR:Hid (∀w',Below w.heap.size w w'→∀p q:Int,Calls Tryz.prog 100 #[.pointer (some ⟨g,0,none⟩),.int .u8 p,.int .u8 q,.int .u8 c] w' fun e w''=>e=.returned (.int .i64 (aB1 ps ls c p q))∧Below w'.heap.size w' w''):=
  yH (fun w' k p q=>aLf (h.below k) hI.inv.good p q c)
 have R0:GOf5 w (aB1 ps ls c) 0 (w.alloc (.cells #[.slice none 0 0] 256)):=
  ⟨_,⟨pAA w #[.slice none 0 0] 256,Nat.le_refl _,World.ownsRow_nil _ _ _ _⟩,yZ.alloc yL _⟩
 have HR0:=yH R0;generalize aB1 ps ls c=f at *;clear h hI R0;go_enter Tryz.func156,Tryz.ntmps156;go_wp2_with fail
 go_loopw [6,7,8] (fun i _ _ wr=>GOf5O w f i wr) (fun i _ _ _=>17 - (intOf i).toNat)
 case atStart=>exact⟨0,1,yH rfl,by omega,by omega,rfl,HR0.out⟩
 obtain⟨p,P,hP,hP1,hP2,rfl,hRR⟩:=hrel;have RR:=yH hRR;clear hRR
 by_cases hpl:P≤16
 ·go_wp2_with fail
  go_loopw [7,8] (fun i _ wr=>GOf5I w f p i wr) (fun i _ _=>17 - (intOf i).toNat)
  case atStart=>exact⟨0,1,yH rfl,by omega,by omega,rfl,RR.out⟩
  clear RR;obtain⟨q,Q,hQ,hQ1,hQ2,rfl,hRR⟩:=hrel
  by_cases hql:Q≤16
  ·have hq16:q<16:=by have:=hQ.out;omega
   have hp16:p<16:=by have:=hP.out;omega
   have NX:=yH (aGx f (p*16+q));rw[aQ6 _ hq16,←hP.out,←hQ.out]at NX;have hlo:=aH7 f (p*16+q);obtain⟨vl,hG,hB⟩:=hRR;have HG:=yH hG;have HB:=yH hB;have C:=yH (CR.out wr hB P Q);have hl2:(aF7 f (p*16+q)).length≤100000:=by omega
   generalize aF7 f (p*16+q)=out at *;obtain⟨y,hy⟩:∃y,f P Q=y:=⟨_,rfl⟩;rw[hy]at C NX;clear hG hB hy hlo;go_wp2_with fail;refine C.out.mono ?_;rintro e w4 ⟨rfl,b4⟩;have HG4:=yH (HG.out.below b4);have HB4:=yT HB b4;clear b4 HG HB C
   by_cases hp:0<y
   ·rw[if_pos hp]at NX;have d0:=HG4.out.blk.cell 0;have gl:=HG4.out.blk.lt;simp at d0;obtain⟨ao,cap,hv,_⟩:=aAd HG4.out.row;subst hv;have q3:decide (0<y)=true:=by simpa using hp
    clear hp;go_wp2_with (at_builtin;refine aC8 _ rfl (.tmp 30) (.tmp 35) rfl w.heap.size _ out rfl (HG4.out.row.alloc _) _ _ (⟨P,Q,y⟩:Fw) rfl (pAA _ _ _) hl2 (by simp;omega) ?_);intro v3 w3 hown3 hgr3;obtain⟨ao3,cap3,hv3,_⟩:=aAd hown3;subst hv3;have R2:∀k,Value.ownBlock _=some k→w.heap.size≤k:=fun k hk=>(aAe HG4.out.row hk).1
    have K3:=yH (Blk.grown (HG4.out.blk.alloc _) hgr3 (fun e=>aAi (HG4.out.row) HG4.out.blk (by decide) _ e rfl));have B3:=yH ((HB4.out.alloc HB4.out.size _).grown hgr3 (by simp;have:=HB4.out.size;omega) (fun k hk=>R2 k hk));have O3:=yH (show w3.ownsRow w.heap.size 220 3 (.slice ao3 (out.length+1) cap3) (out++[(⟨P,Q,y⟩:Fw)]).length (aAp (out++[(⟨P,Q,y⟩:Fw)])) by simpa using hown3);have d3:=K3.out.cell 0;have f3:=K3.out.frozen 0;simp at d3;have KK:=yH ((Keep.refl (·=w.heap.size) w3).setCell (p:=⟨w.heap.size,0,none⟩) (.inl rfl) (.slice ao3 (out.length+1) cap3))
    have G9:Hid (GOf5 w f (p*16+(q+1)) (w3.setCell ⟨w.heap.size,0,none⟩ (.slice ao3 (out.length+1) cap3))):=yH (by
     refine⟨_,⟨by simpa using K3.out.set 0 (.slice ao3 (out.length+1) cap3),Nat.le_refl _,?_⟩,B3.out.setCell (p:=⟨w.heap.size,0,none⟩) yL _⟩;rw[show p*16+(q+1)=p*16+q+1 by omega,NX.out];exact aAl O3.out KK.out (fun b hb e=>aAi O3.out K3.out (by decide) b hb e))
    clear R2 hown3 hgr3 K3 B3 O3 KK d0 gl;go_wp2_with fail;exact⟨⟨q+1,Q+1,yH (by have:=hQ.out;omega),by omega,by omega,by go_num,G9.out⟩,by simp[intOf];omega⟩
   rw[if_neg hp,List.append_nil]at NX;have q3:decide (0<y)=false:=by simpa using hp
   clear hp;have G9:Hid (GOf5 w f (p*16+(q+1)) w4):=yH ⟨_,by rw[show p*16+(q+1)=p*16+q+1 by omega,NX.out];exact HG4.out,HB4.out⟩;go_wp2_with fail;exact⟨⟨q+1,Q+1,yH (by have:=hQ.out;omega),by omega,by omega,by go_num,G9.out⟩,by simp[intOf];omega⟩
  have hq17:Q=17:=by omega
  subst hq17;have hq16:q=16:=by have:=hQ.out;omega
  subst hq16;have RR:=yH hRR;clear hRR;go_wp2_with fail;exact⟨⟨p+1,P+1,yH (by have:=hP.out;omega),by omega,by omega,by go_num,by rw[show(p+1)*16=p*16+16 by omega];exact RR.out⟩,by simp[intOf];omega⟩
 have hp17:P=17:=by omega
 subst hp17;have hp16:p=16:=by have:=hP.out;omega
 subst hp16;obtain⟨vl,hG,hB⟩:=RR.out;have HG:=yH hG;have HB:=yH hB;clear hG hB RR;go_wp2_with fail;go_ret;exact⟨rfl,⟨vl,HG.out⟩,HB.out⟩
theorem aM5{w:World}{base g:Nat}{ps:List Int}{ls:List Ln}{vp vl:Value}{a b c:Int}{μ:RS}(h:RefL w base g ps ls vp vl)(hI:LInv ps ls)(ha:In8 a)(hb:In8 b)(hμ:aAk (aB1 ps ls c) 4398046511104 a b aBs μ):
  Calls Tryz.prog 150 #[.pointer (some ⟨g,0,none⟩),.int .u8 a,.int .u8 b,.int .u8 c] w (yR w (.int .i64 (aBs - μ.left))):=by
 have C1:=yH (rgof_any h hI c);have HI:=yH (aAx hI c);have HR:=yH hμ;clear h hI hμ;go_enter Tryz.func150,Tryz.ntmps150;go_wp2_with fail;refine C1.out.mono ?_;rintro e w1 ⟨rfl,vl1,hk,hb1⟩;have C2:=yH (rmost_at hk HI.out ha hb HR.out);have B1:=yH hb1;obtain⟨m,hm⟩:∃m,aBs - μ.left=m:=⟨_,rfl⟩;rw[hm]at C2;have HE:=yH hm;clear hk hb1 hm;go_wp2_with fail;refine C2.out.mono ?_;rintro e w2 ⟨rfl,hb2⟩;have B2:=yT B1 hb2;clear hb2;go_wp2_with fail;go_ret;exact⟨by rw[HE.out];rfl,B2.out⟩
def RPayPost(w:World)(base g:Nat)(ps:List Int)(ls:List Ln)(vp:Value)(a b c n:Int)(σ:RS)(e:Ending)(w':World):Prop:=
 e=.returned (.tuple #[.int .i64 (payN ps a b c n σ),.int .i64 (payE ps a b c n σ)])∧(∃vl',RefL w' base g ps (payL ps ls a b c n σ) vp vl')∧Keep (·=g) w w'
def RPayAt(W:World)(base g:Nat)(ps:List Int)(ls:List Ln)(vp:Value)(c:Int)(l:List Fw)(i:Value)(wr:World):Prop:=
 ∃k:Nat,k≤l.length∧i=.int .i64 k∧(∃vl',RefL wr base g ps (aCf ps c ls (l.take k)) vp vl')∧Keep (·=g) W wr
theorem may_cases(a b c n:Int)(ha:In8 a)(hb:In8 b)(h:¬aDg a b c n):(decide (a<1)=true)∨(decide (a<1)=false∧decide (16<a)=true)∨(decide (a<1)=false∧decide (16<a)=false∧decide (b<1)=true)∨
  (decide (a<1)=false∧decide (16<a)=false∧decide (b<1)=false∧decide (16<b)=true)∨
  (decide (a<1)=false∧decide (16<a)=false∧decide (b<1)=false∧decide (16<b)=false∧(a==b)=true)∨
  (decide (a<1)=false∧decide (16<a)=false∧decide (b<1)=false∧decide (16<b)=false∧(a==b)=false∧decide (c<1)=true)∨
  (decide (a<1)=false∧decide (16<a)=false∧decide (b<1)=false∧decide (16<b)=false∧(a==b)=false∧decide (c<1)=false∧decide (8<c)=true)∨
  (decide (a<1)=false∧decide (16<a)=false∧decide (b<1)=false∧decide (16<b)=false∧(a==b)=false∧decide (c<1)=false∧decide (8<c)=false∧decide (n<1)=true)∨
  (decide (a<1)=false∧decide (16<a)=false∧decide (b<1)=false∧decide (16<b)=false∧(a==b)=false∧decide (c<1)=false∧decide (8<c)=false∧decide (n<1)=false∧decide (1099511627776<n)=true):=by
 by_cases h0:a<1
 ·exact .inl (decide_eq_true h0)
 have e0:decide (a<1)=false:=by simpa using h0
 by_cases h1:16<a
 ·exact .inr (.inl (⟨e0,decide_eq_true h1⟩))
 have e1:decide (16<a)=false:=by simpa using h1
 by_cases h2:b<1
 ·exact .inr (.inr (.inl (⟨e0,e1,decide_eq_true h2⟩)))
 have e2:decide (b<1)=false:=by simpa using h2
 by_cases h3:16<b
 ·exact .inr (.inr (.inr (.inl (⟨e0,e1,e2,decide_eq_true h3⟩))))
 have e3:decide (16<b)=false:=by simpa using h3
 by_cases h4:a=b
 ·exact .inr (.inr (.inr (.inr (.inl (⟨e0,e1,e2,e3,by simpa using h4⟩)))))
 have e4:(a==b)=false:=by simpa using h4
 by_cases h5:c<1
 ·exact .inr (.inr (.inr (.inr (.inr (.inl (⟨e0,e1,e2,e3,e4,decide_eq_true h5⟩))))))
 have e5:decide (c<1)=false:=by simpa using h5
 by_cases h6:8<c
 ·exact .inr (.inr (.inr (.inr (.inr (.inr (.inl (⟨e0,e1,e2,e3,e4,e5,decide_eq_true h6⟩)))))))
 have e6:decide (8<c)=false:=by simpa using h6
 by_cases h7:n<1
 ·exact .inr (.inr (.inr (.inr (.inr (.inr (.inr (.inl (⟨e0,e1,e2,e3,e4,e5,e6,decide_eq_true h7⟩))))))))
 have e7:decide (n<1)=false:=by simpa using h7
 by_cases h8:1099511627776<n
 ·exact .inr (.inr (.inr (.inr (.inr (.inr (.inr (.inr (⟨e0,e1,e2,e3,e4,e5,e6,e7,decide_eq_true h8⟩))))))))
 exact absurd ⟨⟨by omega,by omega⟩,⟨by omega,by omega⟩,h4,by omega,by omega,by omega,by omega⟩ h
theorem aLt{w:World}{base g:Nat}{ps:List Int}{ls:List Ln}{vp vl:Value}{a b c n:Int}{σ:RS}(h:RefL w base g ps ls vp vl)(hI:LInv ps ls)(ha:In8 a)(hb:In8 b)(hc:In8 c)(hn:In64 n)(hσ:aAk (aB1 ps ls c) 4398046511104 a b n σ):
  Calls Tryz.prog 114 #[.pointer (some ⟨g,0,none⟩),.int .u8 a,.int .u8 b,.int .u8 c,.int .i64 n] w (RPayPost w base g ps ls vp a b c n σ):=by
 have H:=yH h;have II:=yH hI;have HA:=yH ha;have HB:=yH hb;have HN:=yH hn;have HS:=yH hσ;have hsl:=hσ.len;have hgl:=h.blk.lt;obtain⟨got,hgot⟩:∃got,n - σ.left=got:=⟨_,rfl⟩;have HG:=yH hgot;have WC:=aLi (fun p=>decide (p∈ps)) a b c n got;have EE:payE ps a b c n σ=aDr 1 (fun p=>decide (p∈ps)) a b c n got:=by unfold payE;rw[hgot]
 rw[←EE]at WC;have CF:=yH (aC1 h a);have CT:=yH (aC1 h b);clear EE hgot h hI ha hb hc hn hσ
 have bad:∀er,payE ps a b c n σ=er→er≠0→∀w',Below w.heap.size w w'→RPayPost w base g ps ls vp a b c n σ (.returned (.tuple #[.int .i64 0,.int .i64 er])) w':=fun er h1 h2 w' hb=>by
  refine⟨?_,?_,pAE hb⟩
  ·unfold payN;rw[h1,if_neg h2]
  unfold payL;rw[h1,if_neg h2];exact⟨_,H.out.below hb⟩
 have BAD:=yH bad;clear bad;rcases WC with⟨h1,h2⟩|⟨h1,h2,h3⟩|⟨h1,h2,h3,h4,h5⟩|⟨h1,h2,h3,h4,h5⟩
 ·have BB:=yH (BAD.out 1 h1 (by decide));have hs:=may_cases a b c n HA.out HB.out h2;clear h1 h2 BAD CF CT;rcases hs with h1|⟨h1,h2⟩|⟨h1,h2,h3⟩|⟨h1,h2,h3,h4⟩|⟨h1,h2,h3,h4,h5⟩|⟨h1,h2,h3,h4,h5,h6⟩|⟨h1,h2,h3,h4,h5,h6,h7⟩|⟨h1,h2,h3,h4,h5,h6,h7,h8⟩|⟨h1,h2,h3,h4,h5,h6,h7,h8,h9⟩
  all_goals
   go_enter Tryz.func114,Tryz.ntmps114;go_wp2_with fail;refine bodyPost_ret (v:=.tuple #[.int .i64 0,.int .i64 1]) (by simp[results,Tryz.results114,go_sem]) rfl ?_;exact BB.out _ yZ
 all_goals
  obtain⟨⟨p1,p2⟩,⟨p3,p4⟩,p5,p6,p7,p8,p9⟩:=h2;have g1:decide (a<1)=false:=by simp;omega
  have g2:decide (16<a)=false:=by simp;omega
  have g3:decide (b<1)=false:=by simp;omega
  have g4:decide (16<b)=false:=by simp;omega
  have g5:(a==b)=false:=by simpa using p5
  have g6:decide (c<1)=false:=by simp;omega
  have g7:decide (8<c)=false:=by simp;omega
  have g8:decide (n<1)=false:=by simp;omega
  have g9:decide (1099511627776<n)=false:=by simp;omega
  clear p1 p2 p3 p4 p5 p6 p7 p9
 ·have BB:=yH (BAD.out 7 h1 (by decide));clear BAD
  by_cases hf:a∈ps
  ·have ht:b∉ps:=by rcases h3 with h3|h3;exact absurd hf (by simpa using h3);simpa using h3
   rw[decide_eq_true hf]at CF;rw[decide_eq_false ht]at CT;clear hf ht h3 h1;go_enter Tryz.func114,Tryz.ntmps114;go_wp2_with fail;refine CF.out.mono ?_;rintro e w1 ⟨rfl,rfl⟩;go_wp2_with fail;refine CT.out.mono ?_;rintro e w1 ⟨rfl,rfl⟩;go_wp2_with fail;refine bodyPost_ret (v:=.tuple #[.int .i64 0,.int .i64 7]) (by simp[results,Tryz.results114,go_sem]) rfl ?_;exact BB.out _ yZ
  rw[decide_eq_false hf]at CF;clear hf h3 h1 CT;go_enter Tryz.func114,Tryz.ntmps114;go_wp2_with fail;refine CF.out.mono ?_;rintro e w1 ⟨rfl,rfl⟩;go_wp2_with fail;refine bodyPost_ret (v:=.tuple #[.int .i64 0,.int .i64 7]) (by simp[results,Tryz.results114,go_sem]) rfl ?_;exact BB.out _ yZ
 all_goals
  rw[show decide (a∈ps)=true from h3]at CF;rw[show decide (b∈ps)=true from h4]at CT;have CO:=yH (rgof_any H.out II.out c);have CRt:=yH (fun w1 vl1 (hk:RefG w1 w.heap.size w.heap.size (allE (aB1 ps ls c)) vl1)=>rroute_at hk (aAx II.out c) HA.out HB.out HN.out HS.out);rw[HG.out]at CRt;clear h3 h4
 ·have BB:=yH (BAD.out 11 h1 (by decide));have q1:(got==n)=false:=by simp;omega
  clear BAD h1 h5 p8;go_enter Tryz.func114,Tryz.ntmps114;go_wp2_with fail;refine CF.out.mono ?_;rintro e w1 ⟨rfl,rfl⟩;go_wp2_with fail;refine CT.out.mono ?_;rintro e w1 ⟨rfl,rfl⟩;go_wp2_with fail;refine CO.out.mono ?_;rintro e w1 ⟨rfl,vl1,hk,hb1⟩;have CR1:=yH (CRt.out w1 vl1 hk);have B1:=yH hb1;clear hk hb1 CO CRt CF CT;go_wp2_with fail;refine CR1.out.mono ?_;rintro e w2 ⟨v',rfl,hr,hb2⟩;have B2:=yT B1 hb2;clear hr hb2 CR1;go_wp2_with fail;refine bodyPost_ret (v:=.tuple #[.int .i64 0,.int .i64 11]) (by simp[results,Tryz.results114,go_sem]) rfl ?_;exact BB.out _ B2.out
 have hgn:got=n:=by have:=HS.out.nw p8;have:=HG.out;omega
 subst hgn;have PN:Hid (payN ps a b c got σ=(σ.out.length:Int)∧payL ps ls a b c got σ=aCf ps c ls σ.out):=yH (by unfold payN payL;rw[if_pos h1,if_pos h1];exact⟨rfl,rfl⟩);have EZ:=yH h1;clear BAD h1 h5 p8;go_enter Tryz.func114,Tryz.ntmps114;go_wp2_with fail;refine CF.out.mono ?_;rintro e w1 ⟨rfl,rfl⟩;go_wp2_with fail;refine CT.out.mono ?_;rintro e w1 ⟨rfl,rfl⟩;go_wp2_with fail;refine CO.out.mono ?_;rintro e w1 ⟨rfl,vl1,hk,hb1⟩;have CR1:=yH (CRt.out w1 vl1 hk);have B1:=yH hb1;clear hk hb1 CO CRt CF CT g1 g2 g3 g4 g5 g6 g7 g8 g9;go_wp2_with fail;refine CR1.out.mono ?_;rintro e w2 ⟨v',rfl,hr,hb2⟩;have B2:=yT B1 hb2;have hww1:=B1.out.size;have H2:=yH (H.out.below B2.out);have EL:=yH (HS.out.els);obtain⟨L,hL⟩:∃L,σ.out=L:=⟨_,rfl⟩;rw[hL]at hr PN EL hsl;obtain⟨ao,ca,hv,_⟩:=aAd hr;subst hv;have R2:=yH hr;clear hr hb2 CR1 B1 H;go_wp2_with fail
 go_loopw [14] (RPayAt w2 base g ps ls vp c L) (fun i _=>L.length - (intOf i).toNat)
 case atStart=>exact⟨0,by omega,rfl,⟨_,H2.out⟩,Keep.refl _ _⟩
 clear H2;obtain⟨k,hk,rfl,⟨vl2,hRL⟩,hKK⟩:=hrel;have LL:=yH hRL;have KK:=yH hKK;have hne:∀bb,Value.ownBlock (.slice ao L.length ca)=some bb→¬bb=g:=fun bb hbb=>by have:=(aAe R2.out hbb).1;omega
 have RR:=yH (aAl R2.out hKK hne);clear hRL hKK
 by_cases hkl:k<L.length
 ·have hki:(k:Int)<(L.length:Int):=by omega
  have hk0:(0:Int)≤(k:Int):=by omega
  obtain⟨ao1,ca1,hv,_,_,_,hlk⟩:=aAd RR.out;simp only[Value.slice.injEq]at hv;obtain⟨h1,_,h2⟩:=hv;subst h1;subst h2;obtain⟨bl,rfl,hblb,hbl,hcc,_⟩:=hlk (by omega);clear hlk;have E0:=yH ((hcc (k*3+0) (by omega)).trans (aB6 L k 0 (by omega) hkl));have E1:=yH ((hcc (k*3+1) (by omega)).trans (aB6 L k 1 (by omega) hkl));have E2:=yH ((hcc (k*3+2) (by omega)).trans (aB6 L k 2 (by omega) hkl));rw[Nat.add_zero]at E0;clear hcc;have NX:=yH (aJm (ps:=ps) (c:=c) (ls:=ls) hkl);have IK:=yH (aEq (ps:=ps) (c:=c) (L.take k) II.out);generalize aCf ps c ls (L.take k)=lk at *;obtain⟨x,hx⟩:∃x,L[k]=x:=⟨_,rfl⟩;rw[hx]at NX E0 E1 E2;clear hx;obtain⟨fr,tt,am⟩:=x;dsimp only at NX;have HK:=yH hkl;have CP:=yH (fun w' (hS:Below wr.heap.size wr w')=>aIf (LL.out.below hS) IK.out.inv.good IK.out.len fr tt c am);obtain⟨pe,hpe⟩:∃pe,aCz ps lk fr tt c am=pe:=⟨_,rfl⟩;rw[hpe]at CP;clear hpe;go_wp2_with fail
  refine aCi (by kernel_rfl) 17 16 [(.pointer (some ⟨g,0,none⟩)),(.slice (some ⟨bl,0,none⟩) L.length ca),(.int .i64 k),(.pointer (some ⟨bl,k*3,none⟩)),(.pointer (some ⟨bl,k*3,none⟩)),(.int .u8 fr),(.slice (some ⟨bl,0,none⟩) L.length ca),(.int .i64 k),(.pointer (some ⟨bl,k*3,none⟩)),(.pointer (some ⟨bl,k*3+1,none⟩)),(.int .u8 tt),(.int .u8 c),(.slice (some ⟨bl,0,none⟩) L.length ca),(.int .i64 k),(.pointer (some ⟨bl,k*3,none⟩)),(.pointer (some ⟨bl,k*3+2,none⟩)),(.int .i64 am),(.int .i64 pe)]
   (fun w'=>Below wr.heap.size wr w') (by kernel_rfl) rfl (by kernel_rfl) yZ.drew ?_
  intro af haf;simp only[yG,List.append_eq,List.cons_append,List.nil_append,puts,Act.put,yA,yC,yF,yD,yE]at haf;subst haf;refine⟨?_,?_⟩
  ·simp only[yG,List.take_succ_cons,List.take_zero,aBe];refine⟨?z1,?z2,?z3,?z9,?z10,?z11,?z4,?z5,?z12,?z13,?z14,?z6,?z7,?z8,?z15,?z16,?z17,trivial⟩
   case z1|z2|z3|z4|z5|z6|z7|z8=>
    intro w' hS;refine yO rfl ?_;have HS:=yH hS;clear hS;go_wp2_with fail;all_goals first|exact HS|exact⟨rfl,HS⟩|rfl|exact⟨by omega,HS.out⟩
   case z9|z10|z11=>
    intro w' hS;refine yO rfl ?_;have e:=(hS.cell (p:=⟨bl,k*3,none⟩) hbl).trans E0.out;simp[Fw.vals]at e;have HS:=yH hS;clear hS;go_wp2_with fail;all_goals first|exact HS|exact⟨rfl,HS⟩|rfl|exact⟨by omega,HS.out⟩
   case z12|z13|z14=>
    intro w' hS;refine yO rfl ?_;have e:=(hS.cell (p:=⟨bl,k*3+1,none⟩) hbl).trans E1.out;simp[Fw.vals]at e;have HS:=yH hS;clear hS;go_wp2_with fail;all_goals first|exact HS|exact⟨rfl,HS⟩|rfl|exact⟨by omega,HS.out⟩
   case z15|z16|z17=>
    intro w' hS;refine yO rfl ?_;have e:=(hS.cell (p:=⟨bl,k*3+2,none⟩) hbl).trans E2.out;simp[Fw.vals]at e;have HS:=yH hS;clear hS;go_wp2_with fail;all_goals first|exact HS|exact⟨rfl,HS⟩|rfl|exact⟨by omega,HS.out⟩
  simp only[yC,yA,yG];intro w' hS;refine yO rfl ?_;have CQ:=yH (CP.out w' hS);have HSS:=yH hS;clear hS;go_wp2_with fail;refine CQ.out.mono ?_;rintro e w6 ⟨rfl,vl6,hL6,k6⟩;refine⟨rfl,?_⟩;have L6:=yH hL6;have K6:=yH (KK.out.trans ((pAE (S:=(·=g)) HSS.out).trans k6));clear hL6 k6 CP CQ E0 E1 E2;go_wp2_with fail;exact⟨⟨k+1,by have:=HK.out;omega,by go_num,⟨vl6,by rw[NX.out];exact L6.out⟩,K6.out⟩,by simp[intOf];have:=HK.out;omega⟩
 have hkn:k=L.length:=by omega
 subst hkn;rw[List.take_length]at LL;have BE:=yH ((pAE (S:=(·=g)) B2.out).trans KK.out);go_wp2_with fail;refine bodyPost_ret (v:=.tuple #[.int .i64 (L.length:Nat),.int .i64 0]) (by simp[results,Tryz.results114,go_sem]) rfl ?_;refine⟨?_,?_,BE.out⟩
 ·rw[PN.out.1,EZ.out]
 rw[PN.out.2];exact⟨vl2,LL.out⟩
def HalfAt(T w0:Int)(w:World)(n least:Value)(wr:World):Prop:=
 ∃a b:Int,least=.int .i64 a∧n=.int .i64 b∧0≤a∧a≤T∧T≤b∧b≤w0∧Below w.heap.size w wr
theorem aM6{w:World}{bl bb rl rb:Nat}{ps:List Int}{ls:List Ln}{l:List Of}{N:Int}{vp vl vb:Value}(hR:RefL w bl rl ps ls vp vl)(hI:LInv ps ls)(hB:RefB w bb rb l N vb)(hJ:BInv l N)
  (s tk pt want most m1 m2:Int)(ht:In8 tk)(hto:In8 pt)(hw:In64 want)(hmo:In64 most)(hG:∀o,aBg l s=some o→Goes ps ls o tk pt m1 m2):
  Calls Tryz.prog 108 #[.agg #[.pointer (some ⟨rl,0,none⟩),.pointer (some ⟨rb,0,none⟩)],.int .u64 s,.int .u8 tk,.int .u8 pt,.int .i64 want,.int .i64 most] w (yR w (.int .i64 (mayV l ps s tk pt want most m1 m2))):=by
 have bw:=(Below.refl w.heap.size w).alloc yL (.cells #[.pointer (some ⟨rl,0,none⟩),.pointer (some ⟨rb,0,none⟩)] 36);have HR:=yH (hR.below bw);have HB:=yH (hB.below bw);have II:=yH hI;have KX:=yH (pAA w #[.pointer (some ⟨rl,0,none⟩),.pointer (some ⟨rb,0,none⟩)] 36);have B0:=yH bw;have HT:=yH ht;have HTo:=yH hto;clear bw hR hB hI ht hto hw hmo;go_enter Tryz.func108,Tryz.ntmps108;go_wp2_with fail;generalize w.alloc (.cells #[.pointer (some ⟨rl,0,none⟩),.pointer (some ⟨rb,0,none⟩)] 36)=W at *;have e0:=KX.out.cell 0;have e1:=KX.out.cell 1;simp at e0 e1;go_wp2_with fail;refine(aLp HB.out s).mono ?_
 cases hf:aBg l s with
 | none=>
  rintro e w1 ⟨rfl,b1⟩;have B1:=yT B0 b1;have EV:Hid (mayV l ps s tk pt want most m1 m2=0):=yH (by unfold mayV;rw[hf]);clear b1 e0 e1;unfold aGn noOf Of.val;go_wp2_with fail;go_ret;exact⟨by rw[EV.out];rfl,B1.out.trans (((Below.refl w1.heap.size w1).alloc yL _).mono B1.out.size)⟩
 | some o=>
  have HGo:=yH (hG o hf);have hmem:=(aCx hf).1;have hmay:=hJ.may o hmem;have hfit:=hJ.fits hmem;obtain⟨⟨o1,o2⟩,⟨o3,o4⟩,⟨o5,o6⟩,_,⟨o7,o8⟩,o9⟩:=hmay;have FT:=yH hfit;have MY:=yH o9;rintro e w1 ⟨rfl,b1⟩;have EV:Hid (mayV l ps s tk pt want most m1 m2=mayO o ps tk pt want most m1 m2):=yH (by unfold mayV;rw[hf]);have BD:=yH ((hG o hf).bd II.out);clear hG hmem hfit hf;have kx1:=(KX.out.below b1 KX.out.lt).lt;have f0:=(KX.out.below b1 KX.out.lt).cell 0;have f1:=(KX.out.below b1 KX.out.lt).cell 1;simp at f0 f1;have bo:=(Below.refl w1.heap.size w1).alloc yL (.cells #[.int .u64 o.se,.int .u8 o.ow,.int .u8 o.sl,.int .u8 o.bu,.int .i64 o.lf,.int .i64 o.nu,.int .i64 o.de] 48);have KO:=yH (pAA w1 #[.int .u64 o.se,.int .u8 o.ow,.int .u8 o.sl,.int .u8 o.bu,.int .i64 o.lf,.int .i64 o.nu,.int .i64 o.de] 48);have KX1:=yH ((KX.out.below b1 KX.out.lt).below bo kx1);have HR1:=yH ((HR.out.below b1).below bo);have B1:=yH (B0.out.trans ((b1.mono B0.out.size).trans (bo.mono (Nat.le_trans B0.out.size b1.size))));clear b1 bo e0 e1 f0 f1 kx1;have CF:=yH (aC1 HR1.out o.ow);have CT:=yH (aC1 HR1.out tk);have CU:=yH (aC1 HR1.out pt);have f0:=KX1.out.cell 0;have f1:=KX1.out.cell 1;have d0:=KO.out.cell 0;have d1:=KO.out.cell 1;have d2:=KO.out.cell 2;have d3:=KO.out.cell 3;have d4:=KO.out.cell 4;have d5:=KO.out.cell 5;have d6:=KO.out.cell 6;simp at f0 f1 d0 d1 d2 d3 d4 d5 d6
  by_cases hbad:o.ow=tk∨o.ow∉ps∨tk∉ps∨pt∉ps∨want<1∨most<1
  ·have EZ:Hid (mayV l ps s tk pt want most m1 m2=0):=yH (by rw[EV.out];unfold mayO;rw[if_pos hbad]);clear EV;unfold aGn Of.val;dsimp only
   by_cases c1:o.ow=tk
   ·have q1:(o.ow==tk)=true:=by simpa using c1
    clear hbad c1 CF CT CU;go_wp2_with fail;go_ret;exact⟨by rw[EZ.out];rfl,B1.out⟩
   have q1:(o.ow==tk)=false:=by simpa using c1
   by_cases c2:o.ow∉ps
   ·rw[decide_eq_false c2]at CF;clear hbad c1 c2 CT CU;go_wp2_with fail;refine CF.out.mono ?_;rintro e w2 ⟨rfl,rfl⟩;go_wp2_with fail;go_ret;exact⟨by rw[EZ.out];rfl,B1.out⟩
   have c2:=Decidable.not_not.1 c2;rw[decide_eq_true c2]at CF
   by_cases c3:tk∉ps
   ·rw[decide_eq_false c3]at CT;clear hbad c1 c2 c3 CU;go_wp2_with fail;refine CF.out.mono ?_;rintro e w2 ⟨rfl,rfl⟩;go_wp2_with fail;refine CT.out.mono ?_;rintro e w2 ⟨rfl,rfl⟩;go_wp2_with fail;go_ret;exact⟨by rw[EZ.out];rfl,B1.out⟩
   have c3:=Decidable.not_not.1 c3;rw[decide_eq_true c3]at CT
   by_cases c4:pt∉ps
   ·rw[decide_eq_false c4]at CU;clear hbad c1 c2 c3 c4;go_wp2_with fail;refine CF.out.mono ?_;rintro e w2 ⟨rfl,rfl⟩;go_wp2_with fail;refine CT.out.mono ?_;rintro e w2 ⟨rfl,rfl⟩;go_wp2_with fail;refine CU.out.mono ?_;rintro e w2 ⟨rfl,rfl⟩;go_wp2_with fail;go_ret;exact⟨by rw[EZ.out];rfl,B1.out⟩
   have c4:=Decidable.not_not.1 c4;rw[decide_eq_true c4]at CU
   by_cases c5:want<1
   ·have q2:decide (want<1)=true:=by simpa using c5
    clear hbad c1 c2 c3 c4 c5;go_wp2_with fail;refine CF.out.mono ?_;rintro e w2 ⟨rfl,rfl⟩;go_wp2_with fail;refine CT.out.mono ?_;rintro e w2 ⟨rfl,rfl⟩;go_wp2_with fail;refine CU.out.mono ?_;rintro e w2 ⟨rfl,rfl⟩;go_wp2_with fail;go_ret;exact⟨by rw[EZ.out];rfl,B1.out⟩
   have q2:decide (want<1)=false:=by simpa using c5
   have c6:most<1:=by
    rcases hbad with h|h|h|h|h|h
    ·exact absurd h c1
    ·exact absurd c2 h
    ·exact absurd c3 h
    ·exact absurd c4 h
    ·exact absurd h c5
    exact h
   have q3:decide (most<1)=true:=by simpa using c6
   clear hbad c1 c2 c3 c4 c5 c6;go_wp2_with fail;refine CF.out.mono ?_;rintro e w2 ⟨rfl,rfl⟩;go_wp2_with fail;refine CT.out.mono ?_;rintro e w2 ⟨rfl,rfl⟩;go_wp2_with fail;refine CU.out.mono ?_;rintro e w2 ⟨rfl,rfl⟩;go_wp2_with fail;go_ret;exact⟨by rw[EZ.out];rfl,B1.out⟩
  have hgood:o.ow≠tk∧o.ow∈ps∧tk∈ps∧pt∈ps∧1≤want∧1≤most:=by
   refine⟨fun h=>hbad (.inl h),?_,?_,?_,?_,?_⟩
   ·exact Classical.byContradiction fun h=>hbad (.inr (.inl h))
   ·exact Classical.byContradiction fun h=>hbad (.inr (.inr (.inl h)))
   ·exact Classical.byContradiction fun h=>hbad (.inr (.inr (.inr (.inl h))))
   ·exact Int.not_lt.1 fun h=>hbad (.inr (.inr (.inr (.inr (.inl (by omega))))))
   exact Int.not_lt.1 fun h=>hbad (.inr (.inr (.inr (.inr (.inr (by omega))))))
  obtain⟨c1,c2,c3,c4,c5,c6⟩:=hgood;have q1:(o.ow==tk)=false:=by simpa using c1
  have q2:decide (want<1)=false:=by simp;omega
  have q3:decide (most<1)=false:=by simp;omega
  rw[decide_eq_true c2]at CF;rw[decide_eq_true c3]at CT;rw[decide_eq_true c4]at CU;obtain⟨⟨b1,b2⟩,b3,b4⟩:=BD.out;obtain⟨⟨μ1,hμ1,hm1⟩,μ2,hμ2,hm2⟩:=HGo.out;have CA:=yH (fun w (h:RefL w bl rl ps ls vp vl)=>aM5 h II.out FT.out.ow HTo.out hμ1);rw[hm1]at CA;have CB:=yH (fun w (h:RefL w bl rl ps ls vp vl)=>aM5 h II.out HT.out FT.out.ow hμ2);rw[hm2]at CB;obtain⟨n1,hn1⟩:∃n1,(if pt=o.ow then min want o.lf else min (min want o.lf) m1)=n1:=⟨_,rfl⟩;obtain⟨g,hg⟩:∃g,min (min most 1099511627776) m2=g:=⟨_,rfl⟩;have hn0:0≤n1∧n1≤1099511627776:=by rw[←hn1];split <;> omega
  have hg0:0≤g∧g≤1099511627776:=by omega
  have ET:Hid (mayV l ps s tk pt want most m1 m2=min n1 (g*o.de/o.nu)):=yH (by rw[EV.out];unfold mayO;rw[if_neg hbad,hn1,hg,fit_half MY.out hg0.1 hn0.2]);have hT0:0≤g*o.de/o.nu:=Int.ediv_nonneg (Int.mul_nonneg hg0.1 (by have:=aC4 MY.out;omega)) (by have:=aC4 MY.out;omega);have HN1:=yH hn1;have HG1:Hid ((if m2<if 1099511627776<most then 1099511627776 else most then m2 else if 1099511627776<most then 1099511627776 else most)=g):=yH (by rw[←hg];omega);have UT:=yH (fun y (hy:0≤y)=>upV2_test y g o.nu o.de MY.out hy hg0.1 (by omega));generalize g*o.de/o.nu=q at *;clear hbad c1 c2 c3 c4 EV hμ1 hm1 hμ2 hm2 hg HGo BD;unfold aGn Of.val;dsimp only;go_wp2_with fail;refine CF.out.mono ?_;rintro e w2 ⟨rfl,rfl⟩;go_wp2_with fail;refine CT.out.mono ?_;rintro e w2 ⟨rfl,rfl⟩;go_wp2_with fail;refine CU.out.mono ?_;rintro e w2 ⟨rfl,rfl⟩
  by_cases ho:pt=o.ow
  ·skip
   have q4:(pt==o.ow)=true:=by simpa using ho
   have hN:min want o.lf=n1:=by rw[←HN1.out,if_pos ho]
   have HNN:=yH hN;clear hN ho;go_wp2_with fail;refine(CB.out _ HR1.out).mono ?_;rintro e w4 ⟨rfl,b4⟩;have KO4:=yB KO b4;have B4:=yT B1 b4;clear b4 KO KX1 HR1 B1 CA CB;clear f0 f1 d0 d1 d2 d3 d4 d5 d6
   go_upto_region 8 with fail
   rw[HG1.out,HNN.out];go_wp2_with fail
   go_loopw [15,17,18,19,20] (fun n a _ _ _ wr=>HalfAt (min n1 q) n1 w4 n a wr) (fun n a _ _ _ _=>(intOf n - intOf a).toNat)
   case atStart=>exact⟨0,n1,rfl,rfl,by omega,by omega,by omega,by omega,yZ⟩
   obtain⟨a,b,rfl,rfl,a0,aT,Tb,bw,hB⟩:=hrel;have BB:=yH hB;have d5:=(KO4.out.below hB KO4.out.lt).cell 5;have d6:=(KO4.out.below hB KO4.out.lt).cell 6;simp at d5 d6;clear hB
   by_cases hab:a<b
   ·have q5:decide (a<b)=true:=by simpa using hab
    have hdv:(a+b+1).tdiv 2=(a+b+1)/2:=Int.tdiv_eq_ediv_of_nonneg (by omega);obtain⟨hf,hhf⟩:∃hf,(a+b+1)/2=hf:=⟨_,rfl⟩;rw[hhf]at hdv;have hf1:a<hf∧hf≤b:=by omega
    obtain⟨hf1,hf2⟩:=hf1;have CC:=yH (aN6 hf o.nu o.de wr ⟨by omega,by omega⟩ FT.out.nu FT.out.de);have hst:0≤hf:=by omega
    clear hhf hab;rcases UT.out hf hst with⟨x,e,hx,hle⟩|⟨x,e,hx,hgt⟩|⟨e,hgt⟩
    ·rw[e]at CC;have HL:=yH hle;clear e hle;go_wp2_with fail;refine CC.out.mono ?_;rintro e w6 ⟨rfl,b6⟩;have B6:=yT BB b6;clear b6 CC d5 d6;go_wp2_with fail;exact⟨⟨hf,b,rfl,rfl,by omega,by have:=HL.out;omega,by omega,by omega,B6.out⟩,by simp[intOf];omega⟩
    ·rw[e]at CC;have HL:=yH hgt;clear e hgt;go_wp2_with fail;refine CC.out.mono ?_;rintro e w6 ⟨rfl,b6⟩;have B6:=yT BB b6;clear b6 CC d5 d6;go_wp2_with fail;exact⟨⟨a,hf - 1,rfl,by go_num,by omega,by omega,by have:=HL.out;omega,by omega,B6.out⟩,by simp[intOf];omega⟩
    rw[e]at CC;have HL:=yH hgt;clear e hgt;go_wp2_with fail;refine CC.out.mono ?_;rintro e w6 ⟨rfl,b6⟩;have B6:=yT BB b6;clear b6 CC d5 d6;go_wp2_with fail;exact⟨⟨a,hf - 1,rfl,by go_num,by omega,by omega,by have:=HL.out;omega,by omega,B6.out⟩,by simp[intOf];omega⟩
   have EA:Hid (mayV l ps s tk pt want most m1 m2=a):=yH (by rw[ET.out];omega);have B7:=yH (B4.out.trans (BB.out.mono B4.out.size));go_wp2_with fail;go_ret;exact⟨by rw[EA.out];rfl,B7.out⟩
  skip
  have q4:(pt==o.ow)=false:=by simpa using ho
  have hN:min (min want o.lf) m1=n1:=by rw[←HN1.out,if_neg ho]
  have HNN:Hid (min want (min o.lf m1)=n1):=yH (by omega);clear hN ho;go_wp2_with fail;refine(CA.out _ HR1.out).mono ?_;rintro e w3 ⟨rfl,b3⟩;have KO3:=yB KO b3;have KX3:=yB KX1 b3;have HR3:=yH (HR1.out.below b3);have B3:=yT B1 b3;clear b3 KO KX1 HR1 B1;clear f0 f1 d0 d1 d2 d3 d4 d5 d6;have f0:=KX3.out.cell 0;have f1:=KX3.out.cell 1;have d0:=KO3.out.cell 0;have d1:=KO3.out.cell 1;have d2:=KO3.out.cell 2;have d3:=KO3.out.cell 3;have d4:=KO3.out.cell 4;have d5:=KO3.out.cell 5;have d6:=KO3.out.cell 6;simp at f0 f1 d0 d1 d2 d3 d4 d5 d6;go_wp2_with fail;refine(CB.out _ HR3.out).mono ?_;rintro e w4 ⟨rfl,b4⟩;have KO4:=yB KO3 b4;have B4:=yT B3 b4;clear b4 KO3 KX3 HR3 B3 CA CB;clear f0 f1 d0 d1 d2 d3 d4 d5 d6
  go_upto_region 8 with fail
  rw[HG1.out,HNN.out];go_wp2_with fail
  go_loopw [15,17,18,19,20] (fun n a _ _ _ wr=>HalfAt (min n1 q) n1 w4 n a wr) (fun n a _ _ _ _=>(intOf n - intOf a).toNat)
  case atStart=>exact⟨0,n1,rfl,rfl,by omega,by omega,by omega,by omega,yZ⟩
  obtain⟨a,b,rfl,rfl,a0,aT,Tb,bw,hB⟩:=hrel;have BB:=yH hB;have d5:=(KO4.out.below hB KO4.out.lt).cell 5;have d6:=(KO4.out.below hB KO4.out.lt).cell 6;simp at d5 d6;clear hB
  by_cases hab:a<b
  ·have q5:decide (a<b)=true:=by simpa using hab
   have hdv:(a+b+1).tdiv 2=(a+b+1)/2:=Int.tdiv_eq_ediv_of_nonneg (by omega);obtain⟨hf,hhf⟩:∃hf,(a+b+1)/2=hf:=⟨_,rfl⟩;rw[hhf]at hdv;have hf1:a<hf∧hf≤b:=by omega
   obtain⟨hf1,hf2⟩:=hf1;have CC:=yH (aN6 hf o.nu o.de wr ⟨by omega,by omega⟩ FT.out.nu FT.out.de);have hst:0≤hf:=by omega
   clear hhf hab;rcases UT.out hf hst with⟨x,e,hx,hle⟩|⟨x,e,hx,hgt⟩|⟨e,hgt⟩
   ·rw[e]at CC;have HL:=yH hle;clear e hle;go_wp2_with fail;refine CC.out.mono ?_;rintro e w6 ⟨rfl,b6⟩;have B6:=yT BB b6;clear b6 CC d5 d6;go_wp2_with fail;exact⟨⟨hf,b,rfl,rfl,by omega,by have:=HL.out;omega,by omega,by omega,B6.out⟩,by simp[intOf];omega⟩
   ·rw[e]at CC;have HL:=yH hgt;clear e hgt;go_wp2_with fail;refine CC.out.mono ?_;rintro e w6 ⟨rfl,b6⟩;have B6:=yT BB b6;clear b6 CC d5 d6;go_wp2_with fail;exact⟨⟨a,hf - 1,rfl,by go_num,by omega,by omega,by have:=HL.out;omega,by omega,B6.out⟩,by simp[intOf];omega⟩
   rw[e]at CC;have HL:=yH hgt;clear e hgt;go_wp2_with fail;refine CC.out.mono ?_;rintro e w6 ⟨rfl,b6⟩;have B6:=yT BB b6;clear b6 CC d5 d6;go_wp2_with fail;exact⟨⟨a,hf - 1,rfl,by go_num,by omega,by omega,by have:=HL.out;omega,by omega,B6.out⟩,by simp[intOf];omega⟩
  have EA:Hid (mayV l ps s tk pt want most m1 m2=a):=yH (by rw[ET.out];omega);have B7:=yH (B4.out.trans (BB.out.mono B4.out.size));go_wp2_with fail;go_ret;exact⟨by rw[EA.out];rfl,B7.out⟩
theorem aJ3(ls:List Ln):∀u∈aAz ls,u.oneCell'=true:=by
 intro u hu;unfold aAz at hu;obtain⟨x,_,hx⟩:=List.mem_flatMap.1 hu;simp[Ln.vals]at hx;rcases hx with rfl|rfl|rfl|rfl|rfl <;> rfl
def aP2(W:World)(base:Nat)(ps:List Int)(ls:List Ln)(g:Value×Value×Nat)(D:Nat→Bool)(w:World):Prop:=
 Below W.heap.size W w∧(D 4=true→w.ownsRow base 43 1 g.1 ps.length (ps.map (.int .u8))∧∀b,g.1.ownBlock=some b→W.heap.size≤b)∧(D 9=true→w.ownsRow base 115 5 g.2.1 ls.length (aAz ls)∧∀b,g.2.1.ownBlock=some b→W.heap.size≤b)∧(D 11=true→W.heap.size≤g.2.2∧Blk w g.2.2 #[g.1,g.2.1] 157)
theorem aP2.step{W w w':World}{base:Nat}{ps:List Int}{ls:List Ln}{g:Value×Value×Nat}{D:Nat→Bool}{k:Nat}(h:aP2 W base ps ls g D w)(hb:Below w.heap.size w w')(h4:k≠4)(h9:k≠9)(h11:k≠11):aP2 W base ps ls g (ins k D) w':=by
 obtain⟨b,p,l,s⟩:=h;have e4:¬4=k:=fun e=>h4 e.symm
 have e9:¬9=k:=fun e=>h9 e.symm
 have e11:¬11=k:=fun e=>h11 e.symm
 refine⟨b.trans (hb.mono b.size),fun d=>?_,fun d=>?_,fun d=>?_⟩
 ·simp[ins,e4]at d;exact⟨aAc (p d).1 hb,(p d).2⟩
 ·simp[ins,e9]at d;exact⟨aAc (l d).1 hb,(l d).2⟩
 simp[ins,e11]at d;exact⟨(s d).1,(s d).2.below hb (s d).2.lt⟩
def CopyPost(base:Nat)(ps:List Int)(ls:List Ln)(w:World)(e:Ending)(w':World):Prop:=
 ∃g' vp' vl',e=.returned (.pointer (some ⟨g',0,none⟩))∧RefL w' base g' ps ls vp' vl'∧w.heap.size≤g'∧(∀b,vp'.ownBlock=some b→w.heap.size≤b)∧(∀b,vl'.ownBlock=some b→w.heap.size≤b)∧Below w.heap.size w w'
theorem rcopy_any{w:World}{base g:Nat}{ps:List Int}{ls:List Ln}{vp vl:Value}(h:RefL w base g ps ls vp vl)(hp:ps.length≤1000)(hl:ls.length≤1000):
  Calls Tryz.prog 106 #[.pointer (some ⟨g,0,none⟩)] w (CopyPost base ps ls w):=by
 have H:=yH h;have hg:=h.blk.lt;have hbase0:=h.ge;clear h;go_enter Tryz.func106,Tryz.ntmps106;go_wp2_with fail
 refine aA0 (by kernel_rfl) (fun s:Value×Value×Nat=>[.pointer (some ⟨g,0,none⟩),.pointer (some ⟨g,0,none⟩),.pointer (some ⟨g,0,none⟩),vp,s.1,.pointer (some ⟨g,0,none⟩),.pointer (some ⟨g,0,none⟩),.pointer (some ⟨g,1,none⟩),vl,s.2.1,.agg #[s.1,s.2.1],.pointer (some ⟨s.2.2,0,none⟩),.pointer (some ⟨s.2.2,0,none⟩)])
  (aP2 w base ps ls) (by kernel_rfl) (undef,undef,0) ⟨yZ.drew,by simp,by simp,by simp⟩ ?_
 intro AF hAF;simp only[puts,Act.put,yA,yC,yF,yD,yE]at hAF;have hAF2:_=AF:=funext hAF;subst hAF2;clear hAF;refine⟨?_,?_⟩
 ·simp only[aEb];refine⟨?_,?_,?_,?_,?_,?_,?_,?_,?_,?_,?_,?_,?_,trivial⟩
  ·intro s D w' hD _ _ hI;refine⟨s,fun _ _ _=>rfl,?_⟩;with_reducible refine yO rfl ?_
   have hI':=yH (hI.step yZ (k:=0) (by decide) (by decide) (by decide));clear hI;go_wp2_with fail;all_goals first|exact hI'|exact⟨rfl,hI'⟩|rfl
  ·intro s D w' hD _ _ hI;refine⟨s,fun _ _ _=>rfl,?_⟩;with_reducible refine yO rfl ?_
   have hI':=yH (hI.step yZ (k:=1) (by decide) (by decide) (by decide));clear hI;go_wp2_with fail;all_goals first|exact hI'|exact⟨rfl,hI'⟩|rfl
  ·intro s D w' hD _ _ hI;refine⟨s,fun _ _ _=>rfl,?_⟩;with_reducible refine yO rfl ?_
   have hI':=yH (hI.step yZ (k:=2) (by decide) (by decide) (by decide));clear hI;go_wp2_with fail;all_goals first|exact hI'|exact⟨rfl,hI'⟩|rfl
  ·intro s D w' hD _ _ hI;refine⟨s,fun _ _ _=>rfl,?_⟩;with_reducible refine yO rfl ?_
   have hI':=yH (hI.step yZ (k:=3) (by decide) (by decide) (by decide));have d0:=(H.out.blk.below hI.1 hg).cell 0;simp at d0;clear hI;go_wp2_with fail;all_goals first|exact hI'|exact⟨rfl,hI'⟩|rfl
  ·intro s D w' hD _ hC hI;have hN:D 10=false:=aH6 hC hD rfl ⟨⟨4,.data⟩,by simp,rfl,rfl⟩;have hN2:D 11=false:=aH6 hC hN rfl ⟨⟨10,.data⟩,by simp,rfl,rfl⟩;obtain⟨v',w2,hrun,how,hbel⟩:=aCs (P:=Tryz.prog) (w:=w') 155 155 43 aI0 Tryz.underlying155 rfl (by decide) (by decide) base _ _ _ (aAc H.out.p hI.1) (by intro u hu;obtain⟨q,_,rfl⟩:=List.mem_map.1 hu;rfl) (by omega);refine⟨(v',s.2.1,s.2.2),?_,?_⟩
   ·intro j hj hDj
    match j,hj,hDj with
    | 0,_,_=>rfl
    | 1,_,_=>rfl
    | 2,_,_=>rfl
    | 3,_,_=>rfl
    | 4,_,h=>simp_all
    | 5,_,_=>rfl
    | 6,_,_=>rfl
    | 7,_,_=>rfl
    | 8,_,_=>rfl
    | 9,_,_=>rfl
    | 10,_,h=>simp_all
    | 11,_,_=>rfl
    | 12,_,_=>rfl
    | j+13,_,_=>rfl
   with_reducible refine yO rfl ?_
   refine aEz (.tmp 6) 155 rfl rfl hrun ⟨rfl,?_⟩;have hw:=hI.1.size;have hh:∀b,v'.ownBlock=some b→w.heap.size≤b:=fun b hb=>Nat.le_trans hw (aAe how hb).1
   obtain⟨q1,q2,q3,q4⟩:=hI;refine⟨q1.trans (hbel.mono q1.size),fun _=>⟨aA4 how (Nat.le_trans hbase0 (Nat.le_trans (Nat.le_of_lt hg) hw)),hh⟩,fun d=>?_,fun d=>?_⟩
   ·simp[ins]at d;exact⟨aAc (q3 d).1 hbel,(q3 d).2⟩
   simp[ins,hN2]at d
  ·intro s D w' hD _ _ hI;refine⟨s,fun _ _ _=>rfl,?_⟩;with_reducible refine yO rfl ?_
   have hI':=yH (hI.step yZ (k:=5) (by decide) (by decide) (by decide));clear hI;go_wp2_with fail;all_goals first|exact hI'|exact⟨rfl,hI'⟩|rfl
  ·intro s D w' hD _ _ hI;refine⟨s,fun _ _ _=>rfl,?_⟩;with_reducible refine yO rfl ?_
   have hI':=yH (hI.step yZ (k:=6) (by decide) (by decide) (by decide));clear hI;go_wp2_with fail;all_goals first|exact hI'|exact⟨rfl,hI'⟩|rfl
  ·intro s D w' hD _ _ hI;refine⟨s,fun _ _ _=>rfl,?_⟩;with_reducible refine yO rfl ?_
   have hI':=yH (hI.step yZ (k:=7) (by decide) (by decide) (by decide));clear hI;go_wp2_with fail;all_goals first|exact hI'|exact⟨rfl,hI'⟩|rfl
  ·intro s D w' hD _ _ hI;refine⟨s,fun _ _ _=>rfl,?_⟩;with_reducible refine yO rfl ?_
   have hI':=yH (hI.step yZ (k:=8) (by decide) (by decide) (by decide));have d0:=(H.out.blk.below hI.1 hg).cell 1;simp at d0;clear hI;go_wp2_with fail;all_goals first|exact hI'|exact⟨rfl,hI'⟩|rfl
  ·intro s D w' hD _ hC hI;have hN:D 10=false:=aH6 hC hD rfl ⟨⟨9,.data⟩,by simp,rfl,rfl⟩;have hN2:D 11=false:=aH6 hC hN rfl ⟨⟨10,.data⟩,by simp,rfl,rfl⟩;obtain⟨v',w2,hrun,how,hbel⟩:=aCs (P:=Tryz.prog) (w:=w') 68 68 115 aJl Tryz.underlying68 rfl (by decide) (by decide) base _ _ _ (aAc H.out.l hI.1) (by exact aJ3 ls) (by omega);refine⟨(s.1,v',s.2.2),?_,?_⟩
   ·intro j hj hDj
    match j,hj,hDj with
    | 0,_,_=>rfl
    | 1,_,_=>rfl
    | 2,_,_=>rfl
    | 3,_,_=>rfl
    | 4,_,_=>rfl
    | 5,_,_=>rfl
    | 6,_,_=>rfl
    | 7,_,_=>rfl
    | 8,_,_=>rfl
    | 9,_,h=>simp_all
    | 10,_,h=>simp_all
    | 11,_,_=>rfl
    | 12,_,_=>rfl
    | j+13,_,_=>rfl
   with_reducible refine yO rfl ?_
   refine aEz (.tmp 11) 68 rfl rfl hrun ⟨rfl,?_⟩;have hw:=hI.1.size;have hh:∀b,v'.ownBlock=some b→w.heap.size≤b:=fun b hb=>Nat.le_trans hw (aAe how hb).1
   obtain⟨q1,q2,q3,q4⟩:=hI;refine⟨q1.trans (hbel.mono q1.size),fun d=>?_,fun _=>⟨aA4 how (Nat.le_trans hbase0 (Nat.le_trans (Nat.le_of_lt hg) hw)),hh⟩,fun d=>?_⟩
   ·simp[ins]at d;exact⟨aAc (q2 d).1 hbel,(q2 d).2⟩
   simp[ins,hN2]at d
  ·intro s D w' hD hW _ hI;have h4:D 4=true:=hW ⟨4,.data⟩ (by simp) rfl;have h9:D 9=true:=hW ⟨9,.data⟩ (by simp) rfl;have hI':=yH (hI.step yZ (k:=10) (by decide) (by decide) (by decide));obtain⟨v1,v2,g'⟩:=s;obtain⟨a1,c1,hv1,_⟩:=aAd (hI.2.1 h4).1;obtain⟨a2,c2,hv2,_⟩:=aAd (hI.2.2.1 h9).1;clear hI;dsimp only at hv1 hv2;subst hv1 hv2;refine⟨_,fun _ _ _=>rfl,?_⟩;with_reducible refine yO rfl ?_
   go_wp2_with fail;all_goals first|exact hI'|exact⟨rfl,hI'⟩|rfl
  ·intro s D w' hD _ hC hI;have hN:D 12=false:=aH6 hC hD rfl ⟨⟨11,.data⟩,by simp,rfl,rfl⟩;refine⟨(s.1,s.2.1,w'.heap.size),?_,?_⟩
   ·intro j hj hDj
    match j,hj,hDj with
    | 0,_,_=>rfl
    | 1,_,_=>rfl
    | 2,_,_=>rfl
    | 3,_,_=>rfl
    | 4,_,_=>rfl
    | 5,_,_=>rfl
    | 6,_,_=>rfl
    | 7,_,_=>rfl
    | 8,_,_=>rfl
    | 9,_,_=>rfl
    | 10,_,_=>rfl
    | 11,_,h=>simp_all
    | 12,_,h=>simp_all
    | j+13,_,_=>rfl
   with_reducible refine yO rfl ?_
   obtain⟨q1,q2,q3,q4⟩:=hI
   have HI':Hid (aP2 w base ps ls (s.1,s.2.1,w'.heap.size) (ins 11 D) (w'.alloc (.cells #[s.1,s.2.1] 157))):=yH (by
    have hbel:=(Below.refl w'.heap.size w').alloc yL (.cells #[s.1,s.2.1] 157);refine⟨q1.alloc q1.size _,fun d=>?_,fun d=>?_,fun _=>⟨q1.size,pAA _ _ _⟩⟩
    ·simp[ins]at d;exact⟨aAc (q2 d).1 hbel,(q2 d).2⟩
    simp[ins]at d;exact⟨aAc (q3 d).1 hbel,(q3 d).2⟩)
   clear q1 q2 q3 q4;go_wp2_with fail;all_goals first|exact HI'|exact⟨rfl,HI'⟩|rfl
  intro s D w' hD _ _ hI;refine⟨s,fun _ _ _=>rfl,?_⟩;with_reducible refine yO rfl ?_
  have hI':=yH (hI.step yZ (k:=12) (by decide) (by decide) (by decide));clear hI;go_wp2_with fail;all_goals first|exact hI'|exact⟨rfl,hI'⟩|rfl
 intro s D w2 hall hI;obtain⟨q1,q2,q3,q4⟩:=hI;obtain⟨o1,m1⟩:=q2 (hall 4 (by decide));obtain⟨o2,m2⟩:=q3 (hall 9 (by decide));obtain⟨n1,n2⟩:=q4 (hall 11 (by decide));clear q2 q3 q4;dsimp only;obtain⟨v1,v2,g'⟩:=s;have E:=yH (show RefL w2 base g' ps ls v1 v2 from⟨n2,Nat.le_trans hbase0 (Nat.le_trans (Nat.le_of_lt hg) n1),o1,o2⟩);clear o1 o2 n2;go_wp2_with fail;refine bodyPost_ret (v:=.pointer (some ⟨g',0,none⟩)) (by simp[results,go_sem]) rfl ?_;exact⟨g',v1,v2,rfl,E.out,n1,m1,m2,q1⟩
end Go.Proofs.YtaeocliklpcgmaaGreat
