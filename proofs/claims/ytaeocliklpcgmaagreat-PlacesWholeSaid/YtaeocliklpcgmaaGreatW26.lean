/- Pieces of one proof. -/
import Derived.Test.YtaeocliklpcgmaaGreatW25
import Derived.Laws.AppendOwnNone
import Derived.Deep.RegionWith
set_option linter.all false
set_option maxHeartbeats 64000000
set_option maxRecDepth 100000
namespace Go.Proofs.YtaeocliklpcgmaaGreat
open Go.RowKit
theorem aNb(f:Nat→Bool):(Tryz.prog.info? 57).map (·.size)=some (aDu f).size:=by
 rw[show(aDu f).size=17 by unfold aDu;simp]
 kernel_rfl
theorem bitsP_none:(#[.bool false,.bool false,.bool false,.bool false,.bool false,.bool false,.bool false,.bool false,.bool false,.bool false,.bool false,.bool false,.bool false,.bool false,.bool false,.bool false,.bool false]:Array Value)=aDu (fun _=>false):=rfl
theorem aEi{P:Program}{ops:Array Oper}{rest:List Oper}{o:Oper}{a:Act}{w:World}{Q:Exit→Act→World→Prop}(ty:TypeId)(x:Operand)(ho:o.op=.load ty x)
  (g:Nat)(hx:a.eval x=.pointer (some ⟨g,0,none⟩))(t:TypeId)(cs:Array Value)(fr:Nat×Nat)(d:TypeDesc)(hg:w.heap[g]? = some (.cells cs t fr))
  (hu:P.underlying ty=some d)(hd:(match d with | .struct _ | .array _ _=>true|_=>false)=true)(hi:(P.info? ty).map (·.size)=some cs.size)(hw:Region.wanted o (yielded ops a.tmps)=true)
  (h:wpList P ops Q rest (a.put o.dst (.agg cs)) w):wpList P ops Q (o::rest) a w:=
 BigFrame.wpList_want hw fun _ hK=>wp_load_row ty x ho g hx t cs fr d hg hu hd hi (hK _ _ h)
def PartsP(l:List Of)(fr pt:Int)(fs:List Fl)(k:Nat)(f:Nat→Bool):Prop:=∀j:Nat,f j=false→(j:Int)≠fr∧(j:Int)≠pt∧∀x∈fs.take k,∀o,aA4 l x.se=some o→(j:Int)≠o.ow
theorem words_gt{p q:Int}(h:q<p):decide (p/18446744073709551616<q/18446744073709551616)=false∧((p/18446744073709551616==q/18446744073709551616)=true∧decide (p%18446744073709551616≤q%18446744073709551616)=false∨(p/18446744073709551616==q/18446744073709551616)=false):=by
 have e1:=Int.mul_ediv_add_emod p 18446744073709551616;have e2:=Int.mul_ediv_add_emod q 18446744073709551616;have m1:=Int.emod_nonneg p (show(18446744073709551616:Int)≠0 by decide);have m2:=Int.emod_lt_of_pos p (show(0:Int)<18446744073709551616 by decide);have m3:=Int.emod_nonneg q (show(18446744073709551616:Int)≠0 by decide);have m4:=Int.emod_lt_of_pos q (show(0:Int)<18446744073709551616 by decide);generalize p/18446744073709551616=a at *;generalize p%18446744073709551616=b at *;generalize q/18446744073709551616=c at *;generalize q%18446744073709551616=d at *;refine⟨decide_eq_false (by omega),?_⟩
 by_cases he:a=c
 ·exact .inl ⟨by simpa using he,decide_eq_false (by omega)⟩
 exact .inr (by simpa using he)
def WhAt(W:World)(XB:Nat)(l:List Of)(ow:Int)(fs:List Fl)(i:Value)(wr:World):Prop:=
 ∃(k:Nat) (f:Nat→Bool),k≤fs.length∧i=.int .i64 k∧Blk wr XB (aDu f) 57∧PartsP l ow ow fs k f∧Keep (·=XB) W wr
theorem aLs(HMy:aD4)(HD:aFj)(HC:aG3)(HL:Lives12)(x:Wd)(y:Of)(w:World)(h0:x.In w)(hy:y.Fits):
  Calls Tryz.prog 5 #[.agg #[.slice x.a1 x.n1 x.c1,.slice x.a2 x.n2 x.c2],.agg #[.int .u64 y.se,.int .u8 y.ow,.int .u8 y.sl,.int .u8 y.bu,.int .i64 y.lf,.int .i64 y.nu,.int .i64 y.de]] w (yR w (.bool true)):=by
 obtain⟨a1,n1,c1,xs,a2,n2,c2,os⟩:=x;obtain⟨hA,hO⟩:=h0;dsimp only at hA hO ⊢;have m1:n1≤maxLen:=Nat.le_trans hA.2.2.1 hA.2.2.2.1;have m2:n2≤maxLen:=Nat.le_trans hO.2.2.2.1 hO.2.2.2.2.1;have b1:=(Below.refl w.heap.size w).alloc yL (.cells #[.slice a1 n1 c1,.slice a2 n2 c2] 25);have b2:=b1.alloc b1.size (.cells #[.int .u64 y.se,.int .u8 y.ow,.int .u8 y.sl,.int .u8 y.bu,.int .i64 y.lf,.int .i64 y.nu,.int .i64 y.de] 48);have KX:=yH ((pAA w #[.slice a1 n1 c1,.slice a2 n2 c2] 25).alloc (.cells #[.int .u64 y.se,.int .u8 y.ow,.int .u8 y.sl,.int .u8 y.bu,.int .i64 y.lf,.int .i64 y.nu,.int .i64 y.de] 48));have KA:=yH (pAC (w.alloc (.cells #[.slice a1 n1 c1,.slice a2 n2 c2] 25)) #[.int .u64 y.se,.int .u8 y.ow,.int .u8 y.sl,.int .u8 y.bu,.int .i64 y.lf,.int .i64 y.nu,.int .i64 y.de] 48 (g:=w.heap.size+1) (by simp));have HA:=yH (hA.below b2);have HO:=yH (hO.below b2);have B1:=yH b2;have HY:=yH hy;have HLo:=yH HL;have HGt:=yH (fun w=>aOl (w:=w) a1 a2 n1 n2 c1 c2 m1 m2);clear b1 b2 hA hO m1 m2 hy HL;go_enter Tryz.func5,Tryz.ntmps5
 go_upto_region 1 with fail
 generalize (w.alloc (.cells #[.slice a1 n1 c1,.slice a2 n2 c2] 25)).alloc (.cells #[.int .u64 y.se,.int .u8 y.ow,.int .u8 y.sl,.int .u8 y.bu,.int .i64 y.lf,.int .i64 y.nu,.int .i64 y.de] 48)=W at *;have x0:=KX.out.cell 0;have x1:=KX.out.cell 1;have xl:=KX.out.lt;simp at x0 x1;go_wp2_with fail;refine(HGt.out _).mono ?_;rintro e w_1 ⟨rfl,b⟩;clear x0 x1 xl;have X_2:=yB KX b;have A_3:=yB KA b;have I_4:=yH (HA.out.below b);have J_5:=yH (HO.out.below b);have B_6:=yT B1 b;clear KX KA HA HO B1;clear b;clear HGt
 by_cases hgt:120<n1∨40<n2
 ·rw[decide_eq_true hgt];go_wp2_with fail;refine(HLo.out _).mono ?_;rintro e w_7 ⟨rfl,b⟩;have X_8:=yB X_2 b;have A_9:=yB A_3 b;have I_10:=yH (I_4.out.below b);have J_11:=yH (J_5.out.below b);have B_12:=yT B_6 b;clear X_2 A_3 I_4 J_5 B_6;clear b;go_wp2_with fail;go_ret;exact⟨rfl,B_12.out⟩
 rw[decide_eq_false hgt];have CM:=yH (made10_any I_4.out J_5.out (by omega) (by omega));have x0:=X_2.out.cell 0;have x1:=X_2.out.cell 1;have xl:=X_2.out.lt;simp at x0 x1;go_wp2_with fail;refine CM.out.mono ?_;rintro e w2 ⟨G,M,gb,ps,ls,l,N,vl,rfl,hL,hI,hG1,hM1,hP,hJ,hN,hgG,hgM,hvl,b2,hac,hof⟩;have GE:=yH (show(w.heap.size+1<G∧w.heap.size+1<M∧∀b,Foot gb vl b→w.heap.size+1<b)∧w.heap.size+1<w2.heap.size from by have hs:=A_3.out.lt;have hs2:=b2.size;exact⟨⟨by omega,by omega,fun b hb=>by have:=(hP.lt hb).1;omega⟩,by omega⟩);clear x0 x1 xl;have A_13:=yB A_3 b2;have B_14:=yT B_6 b2;clear X_2 A_3 I_4 J_5 B_6;have L0:=yH hL;have P0:=yH hP;have II:=yH hI;have JJ:=yH hJ;clear hL hI hG1 hM1 hP hJ hN hgG hgM hvl hac hof b2 CM;have bf:=(Below.refl w2.heap.size w2).alloc yL (.cells #[.pointer (some ⟨G,0,none⟩),.pointer (some ⟨gb,0,none⟩)] 31);have H0:=yH (pAA w2 #[.pointer (some ⟨G,0,none⟩),.pointer (some ⟨gb,0,none⟩)] 31);have A_15:=yB A_13 bf;have B_16:=yT B_14 bf;have L_17:=yH (L0.out.below bf);have P_18:=yH (P0.out.below bf);clear A_13 B_14 L0 P0;clear bf;have CC:=yH (HC L_17.out II.out P_18.out JJ.out);have h0:=H0.out.cell 0;have h1:=H0.out.cell 1;have hl:=H0.out.lt;simp at h0 h1;go_wp2_with fail;refine CC.out.mono ?_;rintro e w4 ⟨G1,M1,gb1,vb1,rfl,hL1,hP1,hg1,hm1,b4⟩;have GE4:=yH (show w2.heap.size<w4.heap.size from by have:=b4.size;have:=H0.out.lt;omega);clear h0 h1 hl;have A_19:=yB A_15 b4;have B_20:=yT B_16 b4;have L_21:=yH (L_17.out.below b4);have P_22:=yH (P_18.out.below b4);have H_23:=yB H0 b4;clear A_15 B_16 L_17 P_18 H0;have L1:=yH hL1;have P1:=yH hP1;clear hL1 hP1 hg1 hm1 b4 CC;have bf:=(Below.refl w4.heap.size w4).alloc yL (.cells #[.pointer (some ⟨G1,0,none⟩),.pointer (some ⟨gb1,0,none⟩)] 31);have C0:=yH (pAA w4 #[.pointer (some ⟨G1,0,none⟩),.pointer (some ⟨gb1,0,none⟩)] 31);have A_24:=yB A_19 bf;have B_25:=yT B_20 bf;have L_26:=yH (L_21.out.below bf);have P_27:=yH (P_22.out.below bf);have H_28:=yB H_23 bf;have m_29:=yH (L1.out.below bf);have q_30:=yH (P1.out.below bf);clear A_19 B_20 L_21 P_22 H_23 L1 P1;clear bf;have h0:=H_28.out.cell 0;have h1:=H_28.out.cell 1;have hl:=H_28.out.lt;simp at h0 h1;have a0:=A_24.out.cell 0;have a1:=A_24.out.cell 1;have a2:=A_24.out.cell 2;have a3:=A_24.out.cell 3;have a4:=A_24.out.cell 4;have a5:=A_24.out.cell 5;have a6:=A_24.out.cell 6;have al:=A_24.out.lt;simp at a0 a1 a2 a3 a4 a5 a6;have CA:=yH (aLr HMy HD HC L_26.out II.out P_27.out JJ.out y HY.out);go_wp2_with fail;generalize w4.alloc (.cells #[.pointer (some ⟨G1,0,none⟩),.pointer (some ⟨gb1,0,none⟩)] 31)=wa at *;refine CA.out.mono ?_;rintro e w7 hsw;have HNX:=yH (show ls.length≤100000000∧l.length≤32 from⟨by have:=II.out.len;omega,JJ.out.len⟩);have HSW:=yH hsw;clear hsw CA;clear h0 h1 hl a0 a1 a2 a3 a4 a5 a6 al;rcases HSW.out with⟨er,hne,her,rfl,b7⟩|⟨G2,M2,gb2,vb2,sa,sk,σ,N2,sq,hσ,rfl,hL2,hP2,hR2,hg2,hm2,b7⟩
 ·skip
  have A_31:=yB A_24 b7;have B_32:=yT B_25 b7;have L_33:=yH (L_26.out.below b7);have P_34:=yH (P_27.out.below b7);have H_35:=yB H_28 b7;have m_36:=yH (m_29.out.below b7);have q_37:=yH (q_30.out.below b7);have C_38:=yB C0 b7;clear A_24 B_25 L_26 P_27 H_28 m_29 q_30 C0;have qn:(er != 0)=true:=by simpa using hne
  clear b7 hne her HSW;have bf:=(Below.refl w7.heap.size w7).alloc yL (.cells #[.pointer none,.pointer none] 31);have F0:=yH (pAA w7 #[.pointer none,.pointer none] 31);have A_39:=yB A_31 bf;have B_40:=yT B_32 bf;have L_41:=yH (L_33.out.below bf);have P_42:=yH (P_34.out.below bf);have H_43:=yB H_35 bf;have m_44:=yH (m_36.out.below bf);have q_45:=yH (q_37.out.below bf);have C_46:=yB C_38 bf;clear A_31 B_32 L_33 P_34 H_35 m_36 q_37 C_38;clear bf
  go_upto_region 6 with fail
  generalize w7.alloc (.cells #[.pointer none,.pointer none] 31)=wb at *
  have hlasts:∀q∈([(2,(fun v w=>aBi w v 5 ls.length (aAh ls))),(5,(fun v w=>aBi w v 5 ls.length (aAh ls))),(11,(fun v w=>aBi w v 7 l.length (aAa l))),(14,(fun v w=>aBi w v 7 l.length (aAa l)))]:List (Nat×(Value→World→Prop))),Lasts q.2:=by
   intro q hq;simp only[yI,yJ,or_false]at hq;rcases hq with rfl|rfl|rfl|rfl
   ·exact fun v w w' h k=>h.below k
   ·exact fun v w w' h k=>h.below k
   ·exact fun v w w' h k=>h.below k
   exact fun v w w' h k=>h.below k
  have HL:=yH hlasts;clear hlasts
  refine aHp (by kernel_rfl) (fun s:Nat→Value=>[(.pointer (some ⟨w2.heap.size,0,none⟩)),(.pointer (some ⟨G,0,none⟩)),s 2,(.pointer (some ⟨w4.heap.size,0,none⟩)),(.pointer (some ⟨G1,0,none⟩)),s 5,(.bool true),(.bool false),(.bool false),(.pointer (some ⟨w2.heap.size,1,none⟩)),(.pointer (some ⟨gb,0,none⟩)),s 11,(.pointer (some ⟨w4.heap.size,1,none⟩)),(.pointer (some ⟨gb1,0,none⟩)),s 14,(.bool true),(.bool false),(.bool false)])
   (Got wb [(2,(fun v w=>aBi w v 5 ls.length (aAh ls))),(5,(fun v w=>aBi w v 5 ls.length (aAh ls))),(11,(fun v w=>aBi w v 7 l.length (aAa l))),(14,(fun v w=>aBi w v 7 l.length (aAa l)))]) (by kernel_rfl) (fun _=>undef) (Got.start _ _ _) ?_
  intro AF hAF;simp only[yG,puts,Act.put,yA,yC,yF,yD,yE]at hAF;have hAF2:_=AF:=funext hAF;subst hAF2;clear hAF;refine⟨?_,?_⟩
  ·simp only[yG,aNi];refine⟨?_,?_,?_,?_,?_,?_,?_,?_,?_,?_,?_,?_,?_,?_,?_,?_,?_,?_,trivial⟩
   ·intro s D w' hD hW hC hI;have hS:=hI.below;refine .inl ⟨s,fun _ _ _=>rfl,?_⟩;with_reducible refine yO rfl ?_
    have hl0:=yM H_43.out.lt hS.size;have HS:=yH (hI.step HL.out yZ (k:=0) (by intro q hq;simp only[yI,yJ,or_false]at hq;rcases hq with rfl|rfl|rfl|rfl <;> first|exact(show(2:Nat)≠0 by decide)|exact(show(5:Nat)≠0 by decide)|exact(show(11:Nat)≠0 by decide)|exact(show(14:Nat)≠0 by decide)));clear hI hS hC hW hD;go_wp2_with fail;all_goals first|exact HS|exact⟨rfl,HS⟩|rfl
   ·intro s D w' hD hW hC hI;have hS:=hI.below;refine .inl ⟨s,fun _ _ _=>rfl,?_⟩;with_reducible refine yO rfl ?_
    have hl0:=yM H_43.out.lt hS.size;have d0_0:=(H_43.out.below hS H_43.out.lt).cell 0;have d0_1:=(H_43.out.below hS H_43.out.lt).cell 1;simp at d0_0 d0_1;have HS:=yH (hI.step HL.out yZ (k:=1) (by intro q hq;simp only[yI,yJ,or_false]at hq;rcases hq with rfl|rfl|rfl|rfl <;> first|exact(show(2:Nat)≠1 by decide)|exact(show(5:Nat)≠1 by decide)|exact(show(11:Nat)≠1 by decide)|exact(show(14:Nat)≠1 by decide)));clear hI hS hC hW hD;go_wp2_with fail;all_goals first|exact HS|exact⟨rfl,HS⟩|rfl
   ·intro s D w' hD hW hC hI;have hS:=hI.below;have HI:=yH hI;have HCl:=yH hC;have HD:=yH hD;have HC:=yH (aDh (L_41.out.below hS) II.out);refine .inr ?_;with_reducible refine aCk.plain ?_ ?_
    exact rfl;clear hI hS hC hW hD;go_wp2_with fail;refine HC.out.mono ?_;rintro e w'' ⟨v,rfl,hv,hb2⟩;refine⟨v,rfl,updV s 2 v,aD1 _ (fun s:Nat→Value=>[(.pointer (some ⟨w2.heap.size,0,none⟩)),(.pointer (some ⟨G,0,none⟩)),s 2,(.pointer (some ⟨w4.heap.size,0,none⟩)),(.pointer (some ⟨G1,0,none⟩)),s 5,(.bool true),(.bool false),(.bool false),(.pointer (some ⟨w2.heap.size,1,none⟩)),(.pointer (some ⟨gb,0,none⟩)),s 11,(.pointer (some ⟨w4.heap.size,1,none⟩)),(.pointer (some ⟨gb1,0,none⟩)),s 14,(.bool true),(.bool false),(.bool false)]) s 2 v HCl.out HD.out ?_,rfl,HI.out.put HL.out hb2 ?_⟩
    ·intro j hj
     match j,hj with
     | 0,_=>exact .inr rfl
     | 1,_=>exact .inr rfl
     | 2,_=>exact .inl (.inl rfl)
     | 3,_=>exact .inr rfl
     | 4,_=>exact .inr rfl
     | 5,_=>exact .inr rfl
     | 6,_=>exact .inr rfl
     | 7,_=>exact .inr rfl
     | 8,_=>exact .inr rfl
     | 9,_=>exact .inr rfl
     | 10,_=>exact .inr rfl
     | 11,_=>exact .inr rfl
     | 12,_=>exact .inr rfl
     | 13,_=>exact .inr rfl
     | 14,_=>exact .inr rfl
     | 15,_=>exact .inr rfl
     | 16,_=>exact .inr rfl
     | 17,_=>exact .inr rfl
     | j+18,_=>exact .inr rfl
    intro q hq he;simp only[yI,yJ,or_false]at hq;rcases hq with rfl|rfl|rfl|rfl <;> first|exact hv.reads HNX.out.1|exact absurd (show(5:Nat)=2 from he) (by decide)|exact absurd (show(11:Nat)=2 from he) (by decide)|exact absurd (show(14:Nat)=2 from he) (by decide)
   ·intro s D w' hD hW hC hI;have hS:=hI.below;refine .inl ⟨s,fun _ _ _=>rfl,?_⟩;with_reducible refine yO rfl ?_
    have hl0:=yM C_46.out.lt hS.size;have HS:=yH (hI.step HL.out yZ (k:=3) (by intro q hq;simp only[yI,yJ,or_false]at hq;rcases hq with rfl|rfl|rfl|rfl <;> first|exact(show(2:Nat)≠3 by decide)|exact(show(5:Nat)≠3 by decide)|exact(show(11:Nat)≠3 by decide)|exact(show(14:Nat)≠3 by decide)));clear hI hS hC hW hD;go_wp2_with fail;all_goals first|exact HS|exact⟨rfl,HS⟩|rfl
   ·intro s D w' hD hW hC hI;have hS:=hI.below;refine .inl ⟨s,fun _ _ _=>rfl,?_⟩;with_reducible refine yO rfl ?_
    have hl0:=yM C_46.out.lt hS.size;have d0_0:=(C_46.out.below hS C_46.out.lt).cell 0;have d0_1:=(C_46.out.below hS C_46.out.lt).cell 1;simp at d0_0 d0_1;have HS:=yH (hI.step HL.out yZ (k:=4) (by intro q hq;simp only[yI,yJ,or_false]at hq;rcases hq with rfl|rfl|rfl|rfl <;> first|exact(show(2:Nat)≠4 by decide)|exact(show(5:Nat)≠4 by decide)|exact(show(11:Nat)≠4 by decide)|exact(show(14:Nat)≠4 by decide)));clear hI hS hC hW hD;go_wp2_with fail;all_goals first|exact HS|exact⟨rfl,HS⟩|rfl
   ·intro s D w' hD hW hC hI;have hS:=hI.below;have HI:=yH hI;have HCl:=yH hC;have HD:=yH hD;have HC:=yH (aDh (m_44.out.below hS) II.out);refine .inr ?_;with_reducible refine aCk.plain ?_ ?_
    exact rfl;clear hI hS hC hW hD;go_wp2_with fail;refine HC.out.mono ?_;rintro e w'' ⟨v,rfl,hv,hb2⟩;refine⟨v,rfl,updV s 5 v,aD1 _ (fun s:Nat→Value=>[(.pointer (some ⟨w2.heap.size,0,none⟩)),(.pointer (some ⟨G,0,none⟩)),s 2,(.pointer (some ⟨w4.heap.size,0,none⟩)),(.pointer (some ⟨G1,0,none⟩)),s 5,(.bool true),(.bool false),(.bool false),(.pointer (some ⟨w2.heap.size,1,none⟩)),(.pointer (some ⟨gb,0,none⟩)),s 11,(.pointer (some ⟨w4.heap.size,1,none⟩)),(.pointer (some ⟨gb1,0,none⟩)),s 14,(.bool true),(.bool false),(.bool false)]) s 5 v HCl.out HD.out ?_,rfl,HI.out.put HL.out hb2 ?_⟩
    ·intro j hj
     match j,hj with
     | 0,_=>exact .inr rfl
     | 1,_=>exact .inr rfl
     | 2,_=>exact .inr rfl
     | 3,_=>exact .inr rfl
     | 4,_=>exact .inr rfl
     | 5,_=>exact .inl (.inl rfl)
     | 6,_=>exact .inr rfl
     | 7,_=>exact .inr rfl
     | 8,_=>exact .inr rfl
     | 9,_=>exact .inr rfl
     | 10,_=>exact .inr rfl
     | 11,_=>exact .inr rfl
     | 12,_=>exact .inr rfl
     | 13,_=>exact .inr rfl
     | 14,_=>exact .inr rfl
     | 15,_=>exact .inr rfl
     | 16,_=>exact .inr rfl
     | 17,_=>exact .inr rfl
     | j+18,_=>exact .inr rfl
    intro q hq he;simp only[yI,yJ,or_false]at hq;rcases hq with rfl|rfl|rfl|rfl <;> first|exact hv.reads HNX.out.1|exact absurd (show(2:Nat)=5 from he) (by decide)|exact absurd (show(11:Nat)=5 from he) (by decide)|exact absurd (show(14:Nat)=5 from he) (by decide)
   ·intro s D w' hD hW hC hI;have hS:=hI.below;refine .inl ⟨s,fun _ _ _=>rfl,?_⟩;with_reducible refine yO rfl ?_
    have hP2:D 2=true:=aA1 hC hW (by kernel_rfl);have hq2:=hI.at (2,(fun v w=>aBi w v 5 ls.length (aAh ls))) (by simp) hP2;dsimp only at hq2;have hP5:D 5=true:=aA1 hC hW (by kernel_rfl);have hq5:=hI.at (5,(fun v w=>aBi w v 5 ls.length (aAh ls))) (by simp) hP5;dsimp only at hq5;have HI:=yH hI;have HC:=yH ((by have q:=aG2 hq2 hq5;rw[decide_eq_true rfl]at q;exact q:Calls Tryz.prog 18 #[s 2,s 5] w' fun e w''=>e=.returned (.bool true)∧Below w'.heap.size w' w''));clear hI hS hC hW hD hP2 hq2 hP5 hq5;go_wp2_with fail;refine HC.out.mono ?_;rintro e w'' ⟨rfl,hb2⟩;exact⟨rfl,HI.out.step HL.out hb2 (by intro q hq;simp only[yI,yJ,or_false]at hq;rcases hq with rfl|rfl|rfl|rfl <;> first|exact(show(2:Nat)≠6 by decide)|exact(show(5:Nat)≠6 by decide)|exact(show(11:Nat)≠6 by decide)|exact(show(14:Nat)≠6 by decide))⟩
   ·intro s D w' hD hW hC hI;have hS:=hI.below;refine .inl ⟨s,fun _ _ _=>rfl,?_⟩;with_reducible refine yO rfl ?_
    have HS:=yH (hI.step HL.out yZ (k:=7) (by intro q hq;simp only[yI,yJ,or_false]at hq;rcases hq with rfl|rfl|rfl|rfl <;> first|exact(show(2:Nat)≠7 by decide)|exact(show(5:Nat)≠7 by decide)|exact(show(11:Nat)≠7 by decide)|exact(show(14:Nat)≠7 by decide)));clear hI hS hC hW hD;go_wp2_with fail;all_goals first|exact HS|exact⟨rfl,HS⟩|rfl
   ·intro s D w' hD hW hC hI;have hS:=hI.below;refine .inl ⟨s,fun _ _ _=>rfl,?_⟩;with_reducible refine yO rfl ?_
    have HS:=yH (hI.step HL.out yZ (k:=8) (by intro q hq;simp only[yI,yJ,or_false]at hq;rcases hq with rfl|rfl|rfl|rfl <;> first|exact(show(2:Nat)≠8 by decide)|exact(show(5:Nat)≠8 by decide)|exact(show(11:Nat)≠8 by decide)|exact(show(14:Nat)≠8 by decide)));clear hI hS hC hW hD;go_wp2_with fail;all_goals first|exact HS|exact⟨rfl,HS⟩|rfl
   ·intro s D w' hD hW hC hI;have hS:=hI.below;refine .inl ⟨s,fun _ _ _=>rfl,?_⟩;with_reducible refine OpTo.wanted ?_ ?_
    kernel_rfl
    have hl0:=yM H_43.out.lt hS.size;have HS:=yH (hI.step HL.out yZ (k:=9) (by intro q hq;simp only[yI,yJ,or_false]at hq;rcases hq with rfl|rfl|rfl|rfl <;> first|exact(show(2:Nat)≠9 by decide)|exact(show(5:Nat)≠9 by decide)|exact(show(11:Nat)≠9 by decide)|exact(show(14:Nat)≠9 by decide)));clear hI hS hC hW hD;go_wp2_with fail;all_goals first|exact HS|exact⟨rfl,HS⟩|rfl
   ·intro s D w' hD hW hC hI;have hS:=hI.below;refine .inl ⟨s,fun _ _ _=>rfl,?_⟩;with_reducible refine OpTo.wanted ?_ ?_
    kernel_rfl
    have hl0:=yM H_43.out.lt hS.size;have d0_0:=(H_43.out.below hS H_43.out.lt).cell 0;have d0_1:=(H_43.out.below hS H_43.out.lt).cell 1;simp at d0_0 d0_1;have HS:=yH (hI.step HL.out yZ (k:=10) (by intro q hq;simp only[yI,yJ,or_false]at hq;rcases hq with rfl|rfl|rfl|rfl <;> first|exact(show(2:Nat)≠10 by decide)|exact(show(5:Nat)≠10 by decide)|exact(show(11:Nat)≠10 by decide)|exact(show(14:Nat)≠10 by decide)));clear hI hS hC hW hD;go_wp2_with fail;all_goals first|exact HS|exact⟨rfl,HS⟩|rfl
   ·intro s D w' hD hW hC hI;have hS:=hI.below;have HI:=yH hI;have HCl:=yH hC;have HD:=yH hD;have HC:=yH (aIi (P_42.out.below hS) (by have:=HNX.out.2;omega));refine .inr ?_;with_reducible refine aCk.wanted ?_ ?_
    kernel_rfl
    clear hI hS hC hW hD;go_wp2_with fail;refine HC.out.mono ?_;rintro e w'' ⟨v,rfl,hv,hb2⟩;refine⟨v,rfl,updV s 11 v,aD1 _ (fun s:Nat→Value=>[(.pointer (some ⟨w2.heap.size,0,none⟩)),(.pointer (some ⟨G,0,none⟩)),s 2,(.pointer (some ⟨w4.heap.size,0,none⟩)),(.pointer (some ⟨G1,0,none⟩)),s 5,(.bool true),(.bool false),(.bool false),(.pointer (some ⟨w2.heap.size,1,none⟩)),(.pointer (some ⟨gb,0,none⟩)),s 11,(.pointer (some ⟨w4.heap.size,1,none⟩)),(.pointer (some ⟨gb1,0,none⟩)),s 14,(.bool true),(.bool false),(.bool false)]) s 11 v HCl.out HD.out ?_,rfl,HI.out.put HL.out hb2 ?_⟩
    ·intro j hj
     match j,hj with
     | 0,_=>exact .inr rfl
     | 1,_=>exact .inr rfl
     | 2,_=>exact .inr rfl
     | 3,_=>exact .inr rfl
     | 4,_=>exact .inr rfl
     | 5,_=>exact .inr rfl
     | 6,_=>exact .inr rfl
     | 7,_=>exact .inr rfl
     | 8,_=>exact .inr rfl
     | 9,_=>exact .inr rfl
     | 10,_=>exact .inr rfl
     | 11,_=>exact .inl (.inl rfl)
     | 12,_=>exact .inr rfl
     | 13,_=>exact .inr rfl
     | 14,_=>exact .inr rfl
     | 15,_=>exact .inr rfl
     | 16,_=>exact .inr rfl
     | 17,_=>exact .inr rfl
     | j+18,_=>exact .inr rfl
    intro q hq he;simp only[yI,yJ,or_false]at hq;rcases hq with rfl|rfl|rfl|rfl <;> first|exact hv.reads (by have:=HNX.out.2;omega)|exact absurd (show(2:Nat)=11 from he) (by decide)|exact absurd (show(5:Nat)=11 from he) (by decide)|exact absurd (show(14:Nat)=11 from he) (by decide)
   ·intro s D w' hD hW hC hI;have hS:=hI.below;refine .inl ⟨s,fun _ _ _=>rfl,?_⟩;with_reducible refine OpTo.wanted ?_ ?_
    kernel_rfl
    have hl0:=yM C_46.out.lt hS.size;have HS:=yH (hI.step HL.out yZ (k:=12) (by intro q hq;simp only[yI,yJ,or_false]at hq;rcases hq with rfl|rfl|rfl|rfl <;> first|exact(show(2:Nat)≠12 by decide)|exact(show(5:Nat)≠12 by decide)|exact(show(11:Nat)≠12 by decide)|exact(show(14:Nat)≠12 by decide)));clear hI hS hC hW hD;go_wp2_with fail;all_goals first|exact HS|exact⟨rfl,HS⟩|rfl
   ·intro s D w' hD hW hC hI;have hS:=hI.below;refine .inl ⟨s,fun _ _ _=>rfl,?_⟩;with_reducible refine OpTo.wanted ?_ ?_
    kernel_rfl
    have hl0:=yM C_46.out.lt hS.size;have d0_0:=(C_46.out.below hS C_46.out.lt).cell 0;have d0_1:=(C_46.out.below hS C_46.out.lt).cell 1;simp at d0_0 d0_1;have HS:=yH (hI.step HL.out yZ (k:=13) (by intro q hq;simp only[yI,yJ,or_false]at hq;rcases hq with rfl|rfl|rfl|rfl <;> first|exact(show(2:Nat)≠13 by decide)|exact(show(5:Nat)≠13 by decide)|exact(show(11:Nat)≠13 by decide)|exact(show(14:Nat)≠13 by decide)));clear hI hS hC hW hD;go_wp2_with fail;all_goals first|exact HS|exact⟨rfl,HS⟩|rfl
   ·intro s D w' hD hW hC hI;have hS:=hI.below;have HI:=yH hI;have HCl:=yH hC;have HD:=yH hD;have HC:=yH (aIi (q_45.out.below hS) (by have:=HNX.out.2;omega));refine .inr ?_;with_reducible refine aCk.wanted ?_ ?_
    kernel_rfl
    clear hI hS hC hW hD;go_wp2_with fail;refine HC.out.mono ?_;rintro e w'' ⟨v,rfl,hv,hb2⟩;refine⟨v,rfl,updV s 14 v,aD1 _ (fun s:Nat→Value=>[(.pointer (some ⟨w2.heap.size,0,none⟩)),(.pointer (some ⟨G,0,none⟩)),s 2,(.pointer (some ⟨w4.heap.size,0,none⟩)),(.pointer (some ⟨G1,0,none⟩)),s 5,(.bool true),(.bool false),(.bool false),(.pointer (some ⟨w2.heap.size,1,none⟩)),(.pointer (some ⟨gb,0,none⟩)),s 11,(.pointer (some ⟨w4.heap.size,1,none⟩)),(.pointer (some ⟨gb1,0,none⟩)),s 14,(.bool true),(.bool false),(.bool false)]) s 14 v HCl.out HD.out ?_,rfl,HI.out.put HL.out hb2 ?_⟩
    ·intro j hj
     match j,hj with
     | 0,_=>exact .inr rfl
     | 1,_=>exact .inr rfl
     | 2,_=>exact .inr rfl
     | 3,_=>exact .inr rfl
     | 4,_=>exact .inr rfl
     | 5,_=>exact .inr rfl
     | 6,_=>exact .inr rfl
     | 7,_=>exact .inr rfl
     | 8,_=>exact .inr rfl
     | 9,_=>exact .inr rfl
     | 10,_=>exact .inr rfl
     | 11,_=>exact .inr rfl
     | 12,_=>exact .inr rfl
     | 13,_=>exact .inr rfl
     | 14,_=>exact .inl (.inl rfl)
     | 15,_=>exact .inr rfl
     | 16,_=>exact .inr rfl
     | 17,_=>exact .inr rfl
     | j+18,_=>exact .inr rfl
    intro q hq he;simp only[yI,yJ,or_false]at hq;rcases hq with rfl|rfl|rfl|rfl <;> first|exact hv.reads (by have:=HNX.out.2;omega)|exact absurd (show(2:Nat)=14 from he) (by decide)|exact absurd (show(5:Nat)=14 from he) (by decide)|exact absurd (show(11:Nat)=14 from he) (by decide)
   ·intro s D w' hD hW hC hI;have hS:=hI.below;refine .inl ⟨s,fun _ _ _=>rfl,?_⟩;with_reducible refine OpTo.wanted ?_ ?_
    kernel_rfl
    have hP11:D 11=true:=aA1 hC hW (by kernel_rfl);have hq11:=hI.at (11,(fun v w=>aBi w v 7 l.length (aAa l))) (by simp) hP11;dsimp only at hq11;have hP14:D 14=true:=aA1 hC hW (by kernel_rfl);have hq14:=hI.at (14,(fun v w=>aBi w v 7 l.length (aAa l))) (by simp) hP14;dsimp only at hq14;have HI:=yH hI;have HC:=yH ((by have q:=aF1 hq11 hq14;rw[decide_eq_true rfl]at q;exact q:Calls Tryz.prog 20 #[s 11,s 14] w' fun e w''=>e=.returned (.bool true)∧Below w'.heap.size w' w''));clear hI hS hC hW hD hP11 hq11 hP14 hq14;go_wp2_with fail;refine HC.out.mono ?_;rintro e w'' ⟨rfl,hb2⟩;exact⟨rfl,HI.out.step HL.out hb2 (by intro q hq;simp only[yI,yJ,or_false]at hq;rcases hq with rfl|rfl|rfl|rfl <;> first|exact(show(2:Nat)≠15 by decide)|exact(show(5:Nat)≠15 by decide)|exact(show(11:Nat)≠15 by decide)|exact(show(14:Nat)≠15 by decide))⟩
   ·intro s D w' hD hW hC hI;have hS:=hI.below;refine .inl ⟨s,fun _ _ _=>rfl,?_⟩;with_reducible refine OpTo.wanted ?_ ?_
    kernel_rfl
    have HS:=yH (hI.step HL.out yZ (k:=16) (by intro q hq;simp only[yI,yJ,or_false]at hq;rcases hq with rfl|rfl|rfl|rfl <;> first|exact(show(2:Nat)≠16 by decide)|exact(show(5:Nat)≠16 by decide)|exact(show(11:Nat)≠16 by decide)|exact(show(14:Nat)≠16 by decide)));clear hI hS hC hW hD;go_wp2_with fail;all_goals first|exact HS|exact⟨rfl,HS⟩|rfl
   intro s D w' hD hW hC hI;have hS:=hI.below;refine .inl ⟨s,fun _ _ _=>rfl,?_⟩;with_reducible refine yO rfl ?_
   have HS:=yH (hI.step HL.out yZ (k:=17) (by intro q hq;simp only[yI,yJ,or_false]at hq;rcases hq with rfl|rfl|rfl|rfl <;> first|exact(show(2:Nat)≠17 by decide)|exact(show(5:Nat)≠17 by decide)|exact(show(11:Nat)≠17 by decide)|exact(show(14:Nat)≠17 by decide)));clear hI hS hC hW hD;go_wp2_with fail;all_goals first|exact HS|exact⟨rfl,HS⟩|rfl
  intro s6 D6 w8 hall hI;have b8:=hI.below;clear hall hI HL;have A_47:=yB A_39 b8;have B_48:=yT B_40 b8;have L_49:=yH (L_41.out.below b8);have P_50:=yH (P_42.out.below b8);have H_51:=yB H_43 b8;have m_52:=yH (m_44.out.below b8);have q_53:=yH (q_45.out.below b8);have C_54:=yB C_46 b8;have F_55:=yB F0 b8;clear A_39 B_40 L_41 P_42 H_43 m_44 q_45 C_46 F0;clear b8;go_wp2_with fail;refine(HLo.out _).mono ?_;rintro e w_56 ⟨rfl,b⟩;have A_57:=yB A_47 b;have B_58:=yT B_48 b;have L_59:=yH (L_49.out.below b);have P_60:=yH (P_50.out.below b);have H_61:=yB H_51 b;have m_62:=yH (m_52.out.below b);have q_63:=yH (q_53.out.below b);have C_64:=yB C_54 b;have F_65:=yB F_55 b;clear A_47 B_48 L_49 P_50 H_51 m_52 q_53 C_54 F_55;clear b;go_wp2_with fail;go_ret;exact⟨rfl,B_58.out⟩
 skip
 obtain⟨τ,hdn⟩:=aOp II.out JJ.out hσ;obtain⟨hI2,hJ2,hfs⟩:=hdn.next;have DN:=yH hdn;have I2:=yH hI2;have J2:=yH hJ2;have FS:=yH hfs;have GE7:=yH (show wa.heap.size≤w7.heap.size∧wa.heap.size≤G2∧wa.heap.size≤M2∧w4.heap.size<wa.heap.size from⟨b7.size,hg2,hm2,C0.out.lt⟩);have A_66:=yB A_24 b7;have B_67:=yT B_25 b7;have L_68:=yH (L_26.out.below b7);have P_69:=yH (P_27.out.below b7);have H_70:=yB H_28 b7;have m_71:=yH (m_29.out.below b7);have q_72:=yH (q_30.out.below b7);have C_73:=yB C0 b7;clear A_24 B_25 L_26 P_27 H_28 m_29 q_30 C0;have L2:=yH hL2;have P2:=yH hP2;have RW:=yH hR2;clear b7 HSW hσ hL2 hP2 hR2 hg2 hm2 hdn hI2 hJ2 hfs;have bf:=(Below.refl w7.heap.size w7).alloc yL (.cells #[.pointer (some ⟨G2,0,none⟩),.pointer (some ⟨gb2,0,none⟩)] 31);have F0:=yH (pAA w7 #[.pointer (some ⟨G2,0,none⟩),.pointer (some ⟨gb2,0,none⟩)] 31);have A_74:=yB A_66 bf;have B_75:=yT B_67 bf;have L_76:=yH (L_68.out.below bf);have P_77:=yH (P_69.out.below bf);have H_78:=yB H_70 bf;have m_79:=yH (m_71.out.below bf);have q_80:=yH (q_72.out.below bf);have C_81:=yB C_73 bf;have l_82:=yH (L2.out.below bf);have p_83:=yH (P2.out.below bf);have w_84:=yH (RW.out.below bf);clear A_66 B_67 L_68 P_69 H_70 m_71 q_72 C_73 L2 P2 RW;clear bf
 go_upto_region 6 with fail
 generalize w7.alloc (.cells #[.pointer (some ⟨G2,0,none⟩),.pointer (some ⟨gb2,0,none⟩)] 31)=wb at *
 have hlasts:∀q∈([(2,(fun v w=>aBi w v 5 ls.length (aAh ls))),(5,(fun v w=>aBi w v 5 ls.length (aAh ls))),(11,(fun v w=>aBi w v 7 l.length (aAa l))),(14,(fun v w=>aBi w v 7 l.length (aAa l)))]:List (Nat×(Value→World→Prop))),Lasts q.2:=by
  intro q hq;simp only[yI,yJ,or_false]at hq;rcases hq with rfl|rfl|rfl|rfl
  ·exact fun v w w' h k=>h.below k
  ·exact fun v w w' h k=>h.below k
  ·exact fun v w w' h k=>h.below k
  exact fun v w w' h k=>h.below k
 have HL:=yH hlasts;clear hlasts
 refine aHp (by kernel_rfl) (fun s:Nat→Value=>[(.pointer (some ⟨w2.heap.size,0,none⟩)),(.pointer (some ⟨G,0,none⟩)),s 2,(.pointer (some ⟨w4.heap.size,0,none⟩)),(.pointer (some ⟨G1,0,none⟩)),s 5,(.bool true),(.bool false),(.bool false),(.pointer (some ⟨w2.heap.size,1,none⟩)),(.pointer (some ⟨gb,0,none⟩)),s 11,(.pointer (some ⟨w4.heap.size,1,none⟩)),(.pointer (some ⟨gb1,0,none⟩)),s 14,(.bool true),(.bool false),(.bool false)])
  (Got wb [(2,(fun v w=>aBi w v 5 ls.length (aAh ls))),(5,(fun v w=>aBi w v 5 ls.length (aAh ls))),(11,(fun v w=>aBi w v 7 l.length (aAa l))),(14,(fun v w=>aBi w v 7 l.length (aAa l)))]) (by kernel_rfl) (fun _=>undef) (Got.start _ _ _) ?_
 intro AF hAF;simp only[yG,puts,Act.put,yA,yC,yF,yD,yE]at hAF;have hAF2:_=AF:=funext hAF;subst hAF2;clear hAF;refine⟨?_,?_⟩
 ·simp only[yG,aNi];refine⟨?_,?_,?_,?_,?_,?_,?_,?_,?_,?_,?_,?_,?_,?_,?_,?_,?_,?_,trivial⟩
  ·intro s D w' hD hW hC hI;have hS:=hI.below;refine .inl ⟨s,fun _ _ _=>rfl,?_⟩;with_reducible refine yO rfl ?_
   have hl0:=yM H_78.out.lt hS.size;have HS:=yH (hI.step HL.out yZ (k:=0) (by intro q hq;simp only[yI,yJ,or_false]at hq;rcases hq with rfl|rfl|rfl|rfl <;> first|exact(show(2:Nat)≠0 by decide)|exact(show(5:Nat)≠0 by decide)|exact(show(11:Nat)≠0 by decide)|exact(show(14:Nat)≠0 by decide)));clear hI hS hC hW hD;go_wp2_with fail;all_goals first|exact HS|exact⟨rfl,HS⟩|rfl
  ·intro s D w' hD hW hC hI;have hS:=hI.below;refine .inl ⟨s,fun _ _ _=>rfl,?_⟩;with_reducible refine yO rfl ?_
   have hl0:=yM H_78.out.lt hS.size;have d0_0:=(H_78.out.below hS H_78.out.lt).cell 0;have d0_1:=(H_78.out.below hS H_78.out.lt).cell 1;simp at d0_0 d0_1;have HS:=yH (hI.step HL.out yZ (k:=1) (by intro q hq;simp only[yI,yJ,or_false]at hq;rcases hq with rfl|rfl|rfl|rfl <;> first|exact(show(2:Nat)≠1 by decide)|exact(show(5:Nat)≠1 by decide)|exact(show(11:Nat)≠1 by decide)|exact(show(14:Nat)≠1 by decide)));clear hI hS hC hW hD;go_wp2_with fail;all_goals first|exact HS|exact⟨rfl,HS⟩|rfl
  ·intro s D w' hD hW hC hI;have hS:=hI.below;have HI:=yH hI;have HCl:=yH hC;have HD:=yH hD;have HC:=yH (aDh (L_76.out.below hS) II.out);refine .inr ?_;with_reducible refine aCk.plain ?_ ?_
   exact rfl;clear hI hS hC hW hD;go_wp2_with fail;refine HC.out.mono ?_;rintro e w'' ⟨v,rfl,hv,hb2⟩;refine⟨v,rfl,updV s 2 v,aD1 _ (fun s:Nat→Value=>[(.pointer (some ⟨w2.heap.size,0,none⟩)),(.pointer (some ⟨G,0,none⟩)),s 2,(.pointer (some ⟨w4.heap.size,0,none⟩)),(.pointer (some ⟨G1,0,none⟩)),s 5,(.bool true),(.bool false),(.bool false),(.pointer (some ⟨w2.heap.size,1,none⟩)),(.pointer (some ⟨gb,0,none⟩)),s 11,(.pointer (some ⟨w4.heap.size,1,none⟩)),(.pointer (some ⟨gb1,0,none⟩)),s 14,(.bool true),(.bool false),(.bool false)]) s 2 v HCl.out HD.out ?_,rfl,HI.out.put HL.out hb2 ?_⟩
   ·intro j hj
    match j,hj with
    | 0,_=>exact .inr rfl
    | 1,_=>exact .inr rfl
    | 2,_=>exact .inl (.inl rfl)
    | 3,_=>exact .inr rfl
    | 4,_=>exact .inr rfl
    | 5,_=>exact .inr rfl
    | 6,_=>exact .inr rfl
    | 7,_=>exact .inr rfl
    | 8,_=>exact .inr rfl
    | 9,_=>exact .inr rfl
    | 10,_=>exact .inr rfl
    | 11,_=>exact .inr rfl
    | 12,_=>exact .inr rfl
    | 13,_=>exact .inr rfl
    | 14,_=>exact .inr rfl
    | 15,_=>exact .inr rfl
    | 16,_=>exact .inr rfl
    | 17,_=>exact .inr rfl
    | j+18,_=>exact .inr rfl
   intro q hq he;simp only[yI,yJ,or_false]at hq;rcases hq with rfl|rfl|rfl|rfl <;> first|exact hv.reads HNX.out.1|exact absurd (show(5:Nat)=2 from he) (by decide)|exact absurd (show(11:Nat)=2 from he) (by decide)|exact absurd (show(14:Nat)=2 from he) (by decide)
  ·intro s D w' hD hW hC hI;have hS:=hI.below;refine .inl ⟨s,fun _ _ _=>rfl,?_⟩;with_reducible refine yO rfl ?_
   have hl0:=yM C_81.out.lt hS.size;have HS:=yH (hI.step HL.out yZ (k:=3) (by intro q hq;simp only[yI,yJ,or_false]at hq;rcases hq with rfl|rfl|rfl|rfl <;> first|exact(show(2:Nat)≠3 by decide)|exact(show(5:Nat)≠3 by decide)|exact(show(11:Nat)≠3 by decide)|exact(show(14:Nat)≠3 by decide)));clear hI hS hC hW hD;go_wp2_with fail;all_goals first|exact HS|exact⟨rfl,HS⟩|rfl
  ·intro s D w' hD hW hC hI;have hS:=hI.below;refine .inl ⟨s,fun _ _ _=>rfl,?_⟩;with_reducible refine yO rfl ?_
   have hl0:=yM C_81.out.lt hS.size;have d0_0:=(C_81.out.below hS C_81.out.lt).cell 0;have d0_1:=(C_81.out.below hS C_81.out.lt).cell 1;simp at d0_0 d0_1;have HS:=yH (hI.step HL.out yZ (k:=4) (by intro q hq;simp only[yI,yJ,or_false]at hq;rcases hq with rfl|rfl|rfl|rfl <;> first|exact(show(2:Nat)≠4 by decide)|exact(show(5:Nat)≠4 by decide)|exact(show(11:Nat)≠4 by decide)|exact(show(14:Nat)≠4 by decide)));clear hI hS hC hW hD;go_wp2_with fail;all_goals first|exact HS|exact⟨rfl,HS⟩|rfl
  ·intro s D w' hD hW hC hI;have hS:=hI.below;have HI:=yH hI;have HCl:=yH hC;have HD:=yH hD;have HC:=yH (aDh (m_79.out.below hS) II.out);refine .inr ?_;with_reducible refine aCk.plain ?_ ?_
   exact rfl;clear hI hS hC hW hD;go_wp2_with fail;refine HC.out.mono ?_;rintro e w'' ⟨v,rfl,hv,hb2⟩;refine⟨v,rfl,updV s 5 v,aD1 _ (fun s:Nat→Value=>[(.pointer (some ⟨w2.heap.size,0,none⟩)),(.pointer (some ⟨G,0,none⟩)),s 2,(.pointer (some ⟨w4.heap.size,0,none⟩)),(.pointer (some ⟨G1,0,none⟩)),s 5,(.bool true),(.bool false),(.bool false),(.pointer (some ⟨w2.heap.size,1,none⟩)),(.pointer (some ⟨gb,0,none⟩)),s 11,(.pointer (some ⟨w4.heap.size,1,none⟩)),(.pointer (some ⟨gb1,0,none⟩)),s 14,(.bool true),(.bool false),(.bool false)]) s 5 v HCl.out HD.out ?_,rfl,HI.out.put HL.out hb2 ?_⟩
   ·intro j hj
    match j,hj with
    | 0,_=>exact .inr rfl
    | 1,_=>exact .inr rfl
    | 2,_=>exact .inr rfl
    | 3,_=>exact .inr rfl
    | 4,_=>exact .inr rfl
    | 5,_=>exact .inl (.inl rfl)
    | 6,_=>exact .inr rfl
    | 7,_=>exact .inr rfl
    | 8,_=>exact .inr rfl
    | 9,_=>exact .inr rfl
    | 10,_=>exact .inr rfl
    | 11,_=>exact .inr rfl
    | 12,_=>exact .inr rfl
    | 13,_=>exact .inr rfl
    | 14,_=>exact .inr rfl
    | 15,_=>exact .inr rfl
    | 16,_=>exact .inr rfl
    | 17,_=>exact .inr rfl
    | j+18,_=>exact .inr rfl
   intro q hq he;simp only[yI,yJ,or_false]at hq;rcases hq with rfl|rfl|rfl|rfl <;> first|exact hv.reads HNX.out.1|exact absurd (show(2:Nat)=5 from he) (by decide)|exact absurd (show(11:Nat)=5 from he) (by decide)|exact absurd (show(14:Nat)=5 from he) (by decide)
  ·intro s D w' hD hW hC hI;have hS:=hI.below;refine .inl ⟨s,fun _ _ _=>rfl,?_⟩;with_reducible refine yO rfl ?_
   have hP2:D 2=true:=aA1 hC hW (by kernel_rfl);have hq2:=hI.at (2,(fun v w=>aBi w v 5 ls.length (aAh ls))) (by simp) hP2;dsimp only at hq2;have hP5:D 5=true:=aA1 hC hW (by kernel_rfl);have hq5:=hI.at (5,(fun v w=>aBi w v 5 ls.length (aAh ls))) (by simp) hP5;dsimp only at hq5;have HI:=yH hI;have HC:=yH ((by have q:=aG2 hq2 hq5;rw[decide_eq_true rfl]at q;exact q:Calls Tryz.prog 18 #[s 2,s 5] w' fun e w''=>e=.returned (.bool true)∧Below w'.heap.size w' w''));clear hI hS hC hW hD hP2 hq2 hP5 hq5;go_wp2_with fail;refine HC.out.mono ?_;rintro e w'' ⟨rfl,hb2⟩;exact⟨rfl,HI.out.step HL.out hb2 (by intro q hq;simp only[yI,yJ,or_false]at hq;rcases hq with rfl|rfl|rfl|rfl <;> first|exact(show(2:Nat)≠6 by decide)|exact(show(5:Nat)≠6 by decide)|exact(show(11:Nat)≠6 by decide)|exact(show(14:Nat)≠6 by decide))⟩
  ·intro s D w' hD hW hC hI;have hS:=hI.below;refine .inl ⟨s,fun _ _ _=>rfl,?_⟩;with_reducible refine yO rfl ?_
   have HS:=yH (hI.step HL.out yZ (k:=7) (by intro q hq;simp only[yI,yJ,or_false]at hq;rcases hq with rfl|rfl|rfl|rfl <;> first|exact(show(2:Nat)≠7 by decide)|exact(show(5:Nat)≠7 by decide)|exact(show(11:Nat)≠7 by decide)|exact(show(14:Nat)≠7 by decide)));clear hI hS hC hW hD;go_wp2_with fail;all_goals first|exact HS|exact⟨rfl,HS⟩|rfl
  ·intro s D w' hD hW hC hI;have hS:=hI.below;refine .inl ⟨s,fun _ _ _=>rfl,?_⟩;with_reducible refine yO rfl ?_
   have HS:=yH (hI.step HL.out yZ (k:=8) (by intro q hq;simp only[yI,yJ,or_false]at hq;rcases hq with rfl|rfl|rfl|rfl <;> first|exact(show(2:Nat)≠8 by decide)|exact(show(5:Nat)≠8 by decide)|exact(show(11:Nat)≠8 by decide)|exact(show(14:Nat)≠8 by decide)));clear hI hS hC hW hD;go_wp2_with fail;all_goals first|exact HS|exact⟨rfl,HS⟩|rfl
  ·intro s D w' hD hW hC hI;have hS:=hI.below;refine .inl ⟨s,fun _ _ _=>rfl,?_⟩;with_reducible refine OpTo.wanted ?_ ?_
   kernel_rfl
   have hl0:=yM H_78.out.lt hS.size;have HS:=yH (hI.step HL.out yZ (k:=9) (by intro q hq;simp only[yI,yJ,or_false]at hq;rcases hq with rfl|rfl|rfl|rfl <;> first|exact(show(2:Nat)≠9 by decide)|exact(show(5:Nat)≠9 by decide)|exact(show(11:Nat)≠9 by decide)|exact(show(14:Nat)≠9 by decide)));clear hI hS hC hW hD;go_wp2_with fail;all_goals first|exact HS|exact⟨rfl,HS⟩|rfl
  ·intro s D w' hD hW hC hI;have hS:=hI.below;refine .inl ⟨s,fun _ _ _=>rfl,?_⟩;with_reducible refine OpTo.wanted ?_ ?_
   kernel_rfl
   have hl0:=yM H_78.out.lt hS.size;have d0_0:=(H_78.out.below hS H_78.out.lt).cell 0;have d0_1:=(H_78.out.below hS H_78.out.lt).cell 1;simp at d0_0 d0_1;have HS:=yH (hI.step HL.out yZ (k:=10) (by intro q hq;simp only[yI,yJ,or_false]at hq;rcases hq with rfl|rfl|rfl|rfl <;> first|exact(show(2:Nat)≠10 by decide)|exact(show(5:Nat)≠10 by decide)|exact(show(11:Nat)≠10 by decide)|exact(show(14:Nat)≠10 by decide)));clear hI hS hC hW hD;go_wp2_with fail;all_goals first|exact HS|exact⟨rfl,HS⟩|rfl
  ·intro s D w' hD hW hC hI;have hS:=hI.below;have HI:=yH hI;have HCl:=yH hC;have HD:=yH hD;have HC:=yH (aIi (P_77.out.below hS) (by have:=HNX.out.2;omega));refine .inr ?_;with_reducible refine aCk.wanted ?_ ?_
   kernel_rfl
   clear hI hS hC hW hD;go_wp2_with fail;refine HC.out.mono ?_;rintro e w'' ⟨v,rfl,hv,hb2⟩;refine⟨v,rfl,updV s 11 v,aD1 _ (fun s:Nat→Value=>[(.pointer (some ⟨w2.heap.size,0,none⟩)),(.pointer (some ⟨G,0,none⟩)),s 2,(.pointer (some ⟨w4.heap.size,0,none⟩)),(.pointer (some ⟨G1,0,none⟩)),s 5,(.bool true),(.bool false),(.bool false),(.pointer (some ⟨w2.heap.size,1,none⟩)),(.pointer (some ⟨gb,0,none⟩)),s 11,(.pointer (some ⟨w4.heap.size,1,none⟩)),(.pointer (some ⟨gb1,0,none⟩)),s 14,(.bool true),(.bool false),(.bool false)]) s 11 v HCl.out HD.out ?_,rfl,HI.out.put HL.out hb2 ?_⟩
   ·intro j hj
    match j,hj with
    | 0,_=>exact .inr rfl
    | 1,_=>exact .inr rfl
    | 2,_=>exact .inr rfl
    | 3,_=>exact .inr rfl
    | 4,_=>exact .inr rfl
    | 5,_=>exact .inr rfl
    | 6,_=>exact .inr rfl
    | 7,_=>exact .inr rfl
    | 8,_=>exact .inr rfl
    | 9,_=>exact .inr rfl
    | 10,_=>exact .inr rfl
    | 11,_=>exact .inl (.inl rfl)
    | 12,_=>exact .inr rfl
    | 13,_=>exact .inr rfl
    | 14,_=>exact .inr rfl
    | 15,_=>exact .inr rfl
    | 16,_=>exact .inr rfl
    | 17,_=>exact .inr rfl
    | j+18,_=>exact .inr rfl
   intro q hq he;simp only[yI,yJ,or_false]at hq;rcases hq with rfl|rfl|rfl|rfl <;> first|exact hv.reads (by have:=HNX.out.2;omega)|exact absurd (show(2:Nat)=11 from he) (by decide)|exact absurd (show(5:Nat)=11 from he) (by decide)|exact absurd (show(14:Nat)=11 from he) (by decide)
  ·intro s D w' hD hW hC hI;have hS:=hI.below;refine .inl ⟨s,fun _ _ _=>rfl,?_⟩;with_reducible refine OpTo.wanted ?_ ?_
   kernel_rfl
   have hl0:=yM C_81.out.lt hS.size;have HS:=yH (hI.step HL.out yZ (k:=12) (by intro q hq;simp only[yI,yJ,or_false]at hq;rcases hq with rfl|rfl|rfl|rfl <;> first|exact(show(2:Nat)≠12 by decide)|exact(show(5:Nat)≠12 by decide)|exact(show(11:Nat)≠12 by decide)|exact(show(14:Nat)≠12 by decide)));clear hI hS hC hW hD;go_wp2_with fail;all_goals first|exact HS|exact⟨rfl,HS⟩|rfl
  ·intro s D w' hD hW hC hI;have hS:=hI.below;refine .inl ⟨s,fun _ _ _=>rfl,?_⟩;with_reducible refine OpTo.wanted ?_ ?_
   kernel_rfl
   have hl0:=yM C_81.out.lt hS.size;have d0_0:=(C_81.out.below hS C_81.out.lt).cell 0;have d0_1:=(C_81.out.below hS C_81.out.lt).cell 1;simp at d0_0 d0_1;have HS:=yH (hI.step HL.out yZ (k:=13) (by intro q hq;simp only[yI,yJ,or_false]at hq;rcases hq with rfl|rfl|rfl|rfl <;> first|exact(show(2:Nat)≠13 by decide)|exact(show(5:Nat)≠13 by decide)|exact(show(11:Nat)≠13 by decide)|exact(show(14:Nat)≠13 by decide)));clear hI hS hC hW hD;go_wp2_with fail;all_goals first|exact HS|exact⟨rfl,HS⟩|rfl
  ·intro s D w' hD hW hC hI;have hS:=hI.below;have HI:=yH hI;have HCl:=yH hC;have HD:=yH hD;have HC:=yH (aIi (q_80.out.below hS) (by have:=HNX.out.2;omega));refine .inr ?_;with_reducible refine aCk.wanted ?_ ?_
   kernel_rfl
   clear hI hS hC hW hD;go_wp2_with fail;refine HC.out.mono ?_;rintro e w'' ⟨v,rfl,hv,hb2⟩;refine⟨v,rfl,updV s 14 v,aD1 _ (fun s:Nat→Value=>[(.pointer (some ⟨w2.heap.size,0,none⟩)),(.pointer (some ⟨G,0,none⟩)),s 2,(.pointer (some ⟨w4.heap.size,0,none⟩)),(.pointer (some ⟨G1,0,none⟩)),s 5,(.bool true),(.bool false),(.bool false),(.pointer (some ⟨w2.heap.size,1,none⟩)),(.pointer (some ⟨gb,0,none⟩)),s 11,(.pointer (some ⟨w4.heap.size,1,none⟩)),(.pointer (some ⟨gb1,0,none⟩)),s 14,(.bool true),(.bool false),(.bool false)]) s 14 v HCl.out HD.out ?_,rfl,HI.out.put HL.out hb2 ?_⟩
   ·intro j hj
    match j,hj with
    | 0,_=>exact .inr rfl
    | 1,_=>exact .inr rfl
    | 2,_=>exact .inr rfl
    | 3,_=>exact .inr rfl
    | 4,_=>exact .inr rfl
    | 5,_=>exact .inr rfl
    | 6,_=>exact .inr rfl
    | 7,_=>exact .inr rfl
    | 8,_=>exact .inr rfl
    | 9,_=>exact .inr rfl
    | 10,_=>exact .inr rfl
    | 11,_=>exact .inr rfl
    | 12,_=>exact .inr rfl
    | 13,_=>exact .inr rfl
    | 14,_=>exact .inl (.inl rfl)
    | 15,_=>exact .inr rfl
    | 16,_=>exact .inr rfl
    | 17,_=>exact .inr rfl
    | j+18,_=>exact .inr rfl
   intro q hq he;simp only[yI,yJ,or_false]at hq;rcases hq with rfl|rfl|rfl|rfl <;> first|exact hv.reads (by have:=HNX.out.2;omega)|exact absurd (show(2:Nat)=14 from he) (by decide)|exact absurd (show(5:Nat)=14 from he) (by decide)|exact absurd (show(11:Nat)=14 from he) (by decide)
  ·intro s D w' hD hW hC hI;have hS:=hI.below;refine .inl ⟨s,fun _ _ _=>rfl,?_⟩;with_reducible refine OpTo.wanted ?_ ?_
   kernel_rfl
   have hP11:D 11=true:=aA1 hC hW (by kernel_rfl);have hq11:=hI.at (11,(fun v w=>aBi w v 7 l.length (aAa l))) (by simp) hP11;dsimp only at hq11;have hP14:D 14=true:=aA1 hC hW (by kernel_rfl);have hq14:=hI.at (14,(fun v w=>aBi w v 7 l.length (aAa l))) (by simp) hP14;dsimp only at hq14;have HI:=yH hI;have HC:=yH ((by have q:=aF1 hq11 hq14;rw[decide_eq_true rfl]at q;exact q:Calls Tryz.prog 20 #[s 11,s 14] w' fun e w''=>e=.returned (.bool true)∧Below w'.heap.size w' w''));clear hI hS hC hW hD hP11 hq11 hP14 hq14;go_wp2_with fail;refine HC.out.mono ?_;rintro e w'' ⟨rfl,hb2⟩;exact⟨rfl,HI.out.step HL.out hb2 (by intro q hq;simp only[yI,yJ,or_false]at hq;rcases hq with rfl|rfl|rfl|rfl <;> first|exact(show(2:Nat)≠15 by decide)|exact(show(5:Nat)≠15 by decide)|exact(show(11:Nat)≠15 by decide)|exact(show(14:Nat)≠15 by decide))⟩
  ·intro s D w' hD hW hC hI;have hS:=hI.below;refine .inl ⟨s,fun _ _ _=>rfl,?_⟩;with_reducible refine OpTo.wanted ?_ ?_
   kernel_rfl
   have HS:=yH (hI.step HL.out yZ (k:=16) (by intro q hq;simp only[yI,yJ,or_false]at hq;rcases hq with rfl|rfl|rfl|rfl <;> first|exact(show(2:Nat)≠16 by decide)|exact(show(5:Nat)≠16 by decide)|exact(show(11:Nat)≠16 by decide)|exact(show(14:Nat)≠16 by decide)));clear hI hS hC hW hD;go_wp2_with fail;all_goals first|exact HS|exact⟨rfl,HS⟩|rfl
  intro s D w' hD hW hC hI;have hS:=hI.below;refine .inl ⟨s,fun _ _ _=>rfl,?_⟩;with_reducible refine yO rfl ?_
  have HS:=yH (hI.step HL.out yZ (k:=17) (by intro q hq;simp only[yI,yJ,or_false]at hq;rcases hq with rfl|rfl|rfl|rfl <;> first|exact(show(2:Nat)≠17 by decide)|exact(show(5:Nat)≠17 by decide)|exact(show(11:Nat)≠17 by decide)|exact(show(14:Nat)≠17 by decide)));clear hI hS hC hW hD;go_wp2_with fail;all_goals first|exact HS|exact⟨rfl,HS⟩|rfl
 intro s6 D6 w8 hall hI;have b8:=hI.below;clear hall hI HL;have A_85:=yB A_74 b8;have B_86:=yT B_75 b8;have L_87:=yH (L_76.out.below b8);have P_88:=yH (P_77.out.below b8);have H_89:=yB H_78 b8;have m_90:=yH (m_79.out.below b8);have q_91:=yH (q_80.out.below b8);have C_92:=yB C_81 b8;have l_93:=yH (l_82.out.below b8);have p_94:=yH (p_83.out.below b8);have w_95:=yH (w_84.out.below b8);have F_96:=yB F0 b8;clear A_74 B_75 L_76 P_77 H_78 m_79 q_80 C_81 l_82 p_83 w_84 F0;clear b8;have qz:((0:Int) != 0)=false:=by decide
 have hmw:1≤y.ow∧y.ow≤16:=DN.out.may.1;have hln:σ.fs.length≤64:=by rw[FS.out];exact DN.out.inv.len
 have qf:decide (y.ow > 16)=false:=by simp;omega
 have qf2:decide (16<y.ow)=false:=by simp;omega
 have ql:decide ((σ.fs.length:Int) > 64)=false:=by simp;omega
 have ql2:decide (64<(σ.fs.length:Int))=false:=by simp;omega
 have ql3:¬64<σ.fs.length:=by omega
 have i1:0≤y.ow∧y.ow<17:=by omega
 have HLN:=yH hln;clear hln hmw;have LT8:=yH (show(G1<w8.heap.size∧M1<w8.heap.size)∧(G2<w8.heap.size∧M2<w8.heap.size)∧(∀b,Foot gb1 vb1 b→b<w8.heap.size)∧(∀b,(Value.slice sa σ.fs.length sk).ownBlock=some b→b<w8.heap.size)∧w.heap.size+1<w8.heap.size∧w4.heap.size<w8.heap.size∧w7.heap.size<w8.heap.size∧(∀b,Foot gb2 vb2 b→b<w8.heap.size)from⟨⟨m_90.out.blk.lt,m_90.out.map.lt⟩,⟨l_93.out.blk.lt,l_93.out.map.lt⟩,fun b hb=>(q_91.out.lt hb).2,fun b hb=>(w_95.out.type hb).2.1,A_85.out.lt,C_92.out.lt,F_96.out.lt,fun b hb=>(p_94.out.lt hb).2⟩);obtain⟨_,_,hvv,q3,q4,_,_⟩:=w_95.out.look
 cases hvv
 have HCAP:=yH (And.intro q3 q4);clear q3 q4;clear L_87 P_88 H_89;have a0:=A_85.out.cell 0;have a1:=A_85.out.cell 1;have a2:=A_85.out.cell 2;have a3:=A_85.out.cell 3;have a4:=A_85.out.cell 4;have a5:=A_85.out.cell 5;have a6:=A_85.out.cell 6;have al:=A_85.out.lt;simp at a0 a1 a2 a3 a4 a5 a6;have bb:=(Below.refl w8.heap.size w8).alloc yL (.cells #[.bool false,.bool false,.bool false,.bool false,.bool false,.bool false,.bool false,.bool false,.bool false,.bool false,.bool false,.bool false,.bool false,.bool false,.bool false,.bool false,.bool false] 57);have KB0:=yH (pAA w8 #[.bool false,.bool false,.bool false,.bool false,.bool false,.bool false,.bool false,.bool false,.bool false,.bool false,.bool false,.bool false,.bool false,.bool false,.bool false,.bool false,.bool false] 57);have A_97:=yB A_85 bb;have B_98:=yT B_86 bb;have m_99:=yH (m_90.out.below bb);have q_100:=yH (q_91.out.below bb);have C_101:=yB C_92 bb;have l_102:=yH (l_93.out.below bb);have p_103:=yH (p_94.out.below bb);have w_104:=yH (w_95.out.below bb);have F_105:=yB F_96 bb;clear A_85 B_86 m_90 q_91 C_92 l_93 p_94 w_95 F_96;clear bb
 go_upto_region 13 with fail
 clear a0 a1 a2 a3 a4 a5 a6 al;generalize w8.alloc (.cells #[.bool false,.bool false,.bool false,.bool false,.bool false,.bool false,.bool false,.bool false,.bool false,.bool false,.bool false,.bool false,.bool false,.bool false,.bool false,.bool false,.bool false] 57)=wc at *;rw[bitsP_none]at KB0;have HWX:Hid (w.heap.size≤w8.heap.size):=yH (by have:=LT8.out;omega);generalize hXX:w8.heap.size=X8 at *;clear hXX;have a0:=A_97.out.cell 0;have a1:=A_97.out.cell 1;have a2:=A_97.out.cell 2;have a3:=A_97.out.cell 3;have a4:=A_97.out.cell 4;have a5:=A_97.out.cell 5;have a6:=A_97.out.cell 6;have al:=A_97.out.lt;simp at a0 a1 a2 a3 a4 a5 a6;have kl:=KB0.out.lt;have kb1:=KB0.out.bitP (p:=y.ow) (by omega) (by omega);have kz1:=KB0.out.frozen y.ow.toNat;have kk:Keep (·=X8) wc (wc.setCell ⟨X8,y.ow.toNat,none⟩ (.bool true)):=Keep.setCell (S:=(·=X8)) (Keep.refl _ _) (p:=⟨X8,y.ow.toNat,none⟩) (.inl rfl) _;have h2:=KB0.out.set y.ow.toNat (.bool true);rw[aMt _ (by omega)]at h2;have KB1:=yH h2;have KK:=yH kk;clear h2 kk
 go_upto_region 14 with fail
 clear kl kb1 kz1 KB0;generalize wc.setCell ⟨X8,y.ow.toNat,none⟩ (.bool true)=wd at *;clear a0 a1 a2 a3 a4 a5 a6 al;have lt8:=LT8.out;have A_106:=yH (A_97.out.keep KK.out (by omega));have C_107:=yH (C_101.out.keep KK.out (by omega));have F_108:=yH (F_105.out.keep KK.out (by omega));have m_109:=yH (m_99.out.keep KK.out (by omega) (by omega));have l_110:=yH (l_102.out.keep KK.out (by omega) (by omega));have q_111:=yH (q_100.out.keep KK.out (fun e=>by have:=lt8.2.2.1 gb1 (.inl rfl);omega) (fun b hb e=>by have:=lt8.2.2.1 b (.inr hb);omega));have p_112:=yH (p_103.out.keep KK.out (fun e=>by have:=lt8.2.2.2.2.2.2.2 gb2 (.inl rfl);omega) (fun b hb e=>by have:=lt8.2.2.2.2.2.2.2 b (.inr hb);omega));have w_113:=yH (w_104.out.keep KK.out (fun b hb e=>by have:=lt8.2.2.2.1 b hb;omega));have B_114:=yH (B_98.out.trans (KK.out.below B_98.out.size (fun j hj e=>by have:=HWX.out;omega)));clear lt8 A_97 C_101 F_105 m_99 l_102 q_100 p_103 w_104 B_98;clear KK;clear qf qf2 ql ql2 ql3;go_wp2_with fail
 go_loopw [12,13,14,15,16,17,18,19] (fun i _ _ _ _ _ _ _ wr=>WhAt wd X8 l y.ow σ.fs i wr) (fun i _ _ _ _ _ _ _ _=>σ.fs.length - (intOf i).toNat)
 case atStart=>
  refine⟨0,_,Nat.zero_le _,rfl,KB1.out,?_,Keep.refl _ _⟩;intro j hj;simp only[Bool.or_false,beq_eq_false_iff_ne]at hj;exact⟨by omega,by omega,fun x hx=>by simp at hx⟩
 obtain⟨k,f,hk,rfl,hB,hf,hK⟩:=hrel;have KBr:=yH hB;have PTr:=yH hf;have KKr:=yH hK;clear hB hf hK;have lt8:=LT8.out;have A_115:=yH (A_106.out.keep KKr.out (by omega));have C_116:=yH (C_107.out.keep KKr.out (by omega));have F_117:=yH (F_108.out.keep KKr.out (by omega));have m_118:=yH (m_109.out.keep KKr.out (by omega) (by omega));have l_119:=yH (l_110.out.keep KKr.out (by omega) (by omega));have q_120:=yH (q_111.out.keep KKr.out (fun e=>by have:=lt8.2.2.1 gb1 (.inl rfl);omega) (fun b hb e=>by have:=lt8.2.2.1 b (.inr hb);omega));have p_121:=yH (p_112.out.keep KKr.out (fun e=>by have:=lt8.2.2.2.2.2.2.2 gb2 (.inl rfl);omega) (fun b hb e=>by have:=lt8.2.2.2.2.2.2.2 b (.inr hb);omega));have w_122:=yH (w_113.out.keep KKr.out (fun b hb e=>by have:=lt8.2.2.2.1 b hb;omega));have B_123:=yH (B_114.out.trans (KKr.out.below B_114.out.size (fun j hj e=>by have:=HWX.out;omega)));clear lt8 A_106 C_107 F_108 m_109 l_110 q_111 p_112 w_113 B_114
 by_cases hkl:k<σ.fs.length
 ·skip
  have q0:decide ((k:Int)<(σ.fs.length:Int))=true:=by simpa using hkl
  have hki:(k:Int)<(σ.fs.length:Int):=by omega
  have hk0:(0:Int)≤(k:Int):=by omega
  have HKL:=yH hkl;obtain⟨bf,hbf,hcf⟩:=aJq w_122.out k hkl;subst hbf;have CF:=yH hcf;have HT2:Hid (σ.fs.take (k+1)=σ.fs.take k++[σ.fs[k]]):=yH (List.take_succ_eq_append_getElem hkl);have hmem:σ.fs[k]∈τ.fs:=by rw[←FS.out];exact List.getElem_mem hkl
  have FX:=yH (DN.out.inv.fs _ hmem);have RTE:=yH (DN.out.rate hmem);clear hmem;generalize σ.fs[k]=fl at *;obtain⟨se,q,x⟩:=fl;obtain⟨o,ho,hs1,hs2,hs3,hs4,hs5,hs6,hs7,hsu,hs8⟩:=FX.out;dsimp only at ho hs6 hs7 HT2 CF RTE;have OMAY:=yH (JJ.out.may o (aCq ho).1);have OFN:=yH ho;have HO4:=yH (And.intro hs1 (And.intro hs2 (And.intro hs3 (And.intro hs5 (And.intro hs6 (And.intro hs7 hs8))))));have CFi:=yH (fun w' (h:Below wr.heap.size wr w')=>(show Calls Tryz.prog 22 #[.pointer (some ⟨gb1,0,none⟩),.int .u64 se] w' fun e w''=>e=.returned (.tuple #[.agg #[.int .u64 o.se,.int .u8 o.ow,.int .u8 o.sl,.int .u8 o.bu,.int .i64 o.lf,.int .i64 o.nu,.int .i64 o.de],.bool true])∧Below w'.heap.size w' w'' from by have z:=aEf (q_120.out.below h) JJ.out.n1 se;rw[OFN.out]at z;exact z));clear hsu hcf hkl ho hs1 hs2 hs3 hs4 hs5 hs6 hs7 hs8 FX;obtain⟨bl,hcj⟩:=CF.out wr yZ;have c0:=hcj 0 (by omega);have c1:=hcj 1 (by omega);have c2:=hcj 2 (by omega);have c3:=hcj 3 (by omega);have c4:=hcj 4 (by omega);simp only[Fl.vals,List.getElem?_cons_zero,List.getElem?_cons_succ,Nat.add_zero]at c0 c1 c2 c3 c4;clear hcj;have bf:=(Below.refl wr.heap.size wr).alloc yL (.cells #[.int .u64 se,.int .u8 y.ow,.int .u8 y.ow,.int .i64 q,.int .i64 x] 73);have V0:=yH (pAA wr #[.int .u64 se,.int .u8 y.ow,.int .u8 y.ow,.int .i64 q,.int .i64 x] 73);have A_124:=yB A_115 bf;have B_125:=yT B_123 bf;have m_126:=yH (m_118.out.below bf);have q_127:=yH (q_120.out.below bf);have C_128:=yB C_116 bf;have l_129:=yH (l_119.out.below bf);have p_130:=yH (p_121.out.below bf);have w_131:=yH (w_122.out.below bf);have F_132:=yB F_117 bf;have b_133:=yB KBr bf;have K_134:=yH (KKr.out.trans (pAD bf));clear A_115 B_123 m_118 q_120 C_116 l_119 p_121 w_122 F_117 KBr KKr;clear bf;have CFi2:=yH (CFi.out _ ((Below.refl wr.heap.size wr).alloc yL (.cells #[.int .u64 se,.int .u8 y.ow,.int .u8 y.ow,.int .i64 q,.int .i64 x] 73)));clear CFi CF
  go_upto_region 18 with fail
  generalize wr.alloc (.cells #[.int .u64 se,.int .u8 y.ow,.int .u8 y.ow,.int .i64 q,.int .i64 x] 73)=wv at *;clear c0 c1 c2 c3 c4 bl;have c0:=C_128.out.cell 0;have c1:=C_128.out.cell 1;have cl:=C_128.out.lt;simp at c0 c1;have v0:=V0.out.cell 0;have v1:=V0.out.cell 1;have v2:=V0.out.cell 2;have v3:=V0.out.cell 3;have v4:=V0.out.cell 4;have vl:=V0.out.lt;simp at v0 v1 v2 v3 v4;go_wp2_with fail;refine CFi2.out.mono ?_;rintro e w5 ⟨rfl,b5⟩;clear c0 c1 cl v0 v1 v2 v3 v4 vl;have A_135:=yB A_124 b5;have B_136:=yT B_125 b5;have m_137:=yH (m_126.out.below b5);have q_138:=yH (q_127.out.below b5);have C_139:=yB C_128 b5;have l_140:=yH (l_129.out.below b5);have p_141:=yH (p_130.out.below b5);have w_142:=yH (w_131.out.below b5);have F_143:=yB F_132 b5;have b_144:=yB b_133 b5;have K_145:=yH (K_134.out.trans (pAD b5));have V_146:=yB V0 b5;clear A_124 B_125 m_126 q_127 C_128 l_129 p_130 w_131 F_132 b_133 K_134 V0;clear b5 CFi2;have bf:=(Below.refl w5.heap.size w5).alloc yL (.cells #[.int .u64 o.se,.int .u8 o.ow,.int .u8 o.sl,.int .u8 o.bu,.int .i64 o.lf,.int .i64 o.nu,.int .i64 o.de] 48);have O0:=yH (pAA w5 #[.int .u64 o.se,.int .u8 o.ow,.int .u8 o.sl,.int .u8 o.bu,.int .i64 o.lf,.int .i64 o.nu,.int .i64 o.de] 48);have A_147:=yB A_135 bf;have B_148:=yT B_136 bf;have m_149:=yH (m_137.out.below bf);have q_150:=yH (q_138.out.below bf);have C_151:=yB C_139 bf;have l_152:=yH (l_140.out.below bf);have p_153:=yH (p_141.out.below bf);have w_154:=yH (w_142.out.below bf);have F_155:=yB F_143 bf;have b_156:=yB b_144 bf;have K_157:=yH (K_145.out.trans (pAD bf));have V_158:=yB V_146 bf;clear A_135 B_136 m_137 q_138 C_139 l_140 p_141 w_142 F_143 b_144 K_145 V_146;clear bf
  go_upto_region 19 with fail
  generalize w5.alloc (.cells #[.int .u64 o.se,.int .u8 o.ow,.int .u8 o.sl,.int .u8 o.bu,.int .i64 o.lf,.int .i64 o.nu,.int .i64 o.de] 48)=w6 at *;obtain⟨hs1,hs2,hs3,hs5,hs6,hs7,hs8⟩:=HO4.out;obtain⟨⟨ow1,ow2⟩,_⟩:=OMAY.out;have hob:=aC3 hs8;obtain⟨cm,hcm⟩:∃cm,cmpR o.nu o.de y.de y.nu=cm:=⟨_,rfl⟩;have CI:=yH (fun w=>aGg y.nu y.de w HY.out.nu HY.out.de);rw[show alN y.nu y.de=y.nu by unfold alN;rw[if_pos DN.out.may.2.2.2.2.2],show alD y.nu y.de=y.de by unfold alD;rw[if_pos DN.out.may.2.2.2.2.2]]at CI;have CM1:=yH (fun w=>aJf o.nu o.de y.de y.nu w ⟨by omega,by omega⟩ ⟨by omega,by omega⟩ HY.out.de HY.out.nu);rw[hcm]at CM1 hs5;clear hcm hob;have ho1:0≤o.ow∧o.ow<17:=by omega
  have z1:decide (o.ow > 16)=false:=by simp;omega
  have z2:decide (16<o.ow)=false:=by simp;omega
  have z3:(o.ow==y.ow)=false:=by simpa using hs3
  have z4:(o.sl != y.bu)=false:=by simp[hs1]
  have z5:(o.bu != y.sl)=false:=by simp[hs2]
  have z6:(y.ow != y.ow)=false:=by simp
  have z7:decide (cm > 0)=false:=by simp;omega
  have z7b:decide (0<cm)=false:=by simp;omega
  have z8:decide (q<1)=false:=by simp;omega
  have z9:decide (x<1)=false:=by simp;omega
  have BQ:=yH (And.intro hs6 hs7);clear hs1 hs2 hs3 hs5 hs6 hs7 hs8 ow1 ow2
  refine aE3 (by kernel_rfl) [(.bool true),(.bool false),(.bool false),(.pointer (some ⟨w5.heap.size,1,none⟩)),(.int .u8 o.ow),(.bool false),(.bool false),(.bool false),(.pointer (some ⟨w5.heap.size,1,none⟩)),(.int .u8 o.ow),(.pointer (some ⟨w.heap.size+1,1,none⟩)),(.int .u8 y.ow),(.bool false),(.bool false),(.bool false),(.pointer (some ⟨w5.heap.size,2,none⟩)),(.int .u8 o.sl),(.pointer (some ⟨w.heap.size+1,3,none⟩)),(.int .u8 y.bu),(.bool false),(.bool false),(.bool false),(.pointer (some ⟨w5.heap.size,3,none⟩)),(.int .u8 o.bu),(.pointer (some ⟨w.heap.size+1,2,none⟩)),(.int .u8 y.sl),(.bool false),(.bool false),(.bool false),(.pointer (some ⟨wr.heap.size,1,none⟩)),(.int .u8 y.ow),(.pointer (some ⟨w.heap.size+1,1,none⟩)),(.int .u8 y.ow),(.bool false),(.bool false),(.bool false),(.pointer (some ⟨wr.heap.size,2,none⟩)),(.int .u8 y.ow),(.pointer (some ⟨w.heap.size+1,1,none⟩)),(.int .u8 y.ow),(.bool false),(.bool false),(.bool false),(.pointer (some ⟨w5.heap.size,5,none⟩)),(.agg #[.int .i64 o.nu,.int .i64 o.de]),(.pointer (some ⟨w.heap.size+1,5,none⟩)),(.agg #[.int .i64 y.nu,.int .i64 y.de]),(.agg #[.int .i64 y.de,.int .i64 y.nu]),(.int .i64 cm),(.bool false),(.bool false),(.bool false),(.pointer (some ⟨wr.heap.size,3,none⟩)),(.int .i64 q),(.bool false),(.bool false),(.bool false),(.pointer (some ⟨wr.heap.size,4,none⟩)),(.int .i64 x),(.bool false),(.bool false)]
   (fun w'=>Below w6.heap.size w6 w') (by kernel_rfl) yZ.drew ?_
  intro af haf;simp only[yG,List.append_eq,List.cons_append,List.nil_append,puts,Act.put,yA,yC,yF,yD,yE]at haf;subst haf;refine⟨?_,?_⟩
  ·simp only[yG,List.append_eq,List.cons_append,List.nil_append,aCb];refine⟨?z1,?z2,?z3,?z21,?z26,?z31,?z4,?z5,?z22,?z27,?z40,?z46,?z32,?z6,?z7,?z23,?z28,?z41,?z47,?z33,?z8,?z9,?z24,?z29,?z42,?z48,?z34,?z10,?z11,?z52,?z56,?z43,?z49,?z35,?z12,?z13,?z53,?z57,?z44,?z50,?z36,?z14,?z15,?z25,?z30,?z45,?z51,?_,?_,?z37,?z16,?z17,?z54,?z58,?z38,?z18,?z19,?z55,?z59,?z39,?z20,trivial⟩
   case z1|z2|z3|z4|z5|z6|z7|z8|z9|z10|z11|z12|z13|z14|z15|z16|z17|z18|z19|z20=>
    intro w' hS;refine yO rfl ?_;have HS:=yH hS;clear hS;go_wp2_with fail;all_goals first|exact HS|exact⟨rfl,HS⟩|rfl|exact⟨by omega,HS.out⟩
   case z21|z22|z23|z24|z25=>
    intro w' hS;refine OpTo.wanted ?_ ?_
    kernel_rfl
    have hl0:=yM O0.out.lt hS.size;have HS:=yH hS;clear hS;go_wp2_with fail;all_goals first|exact HS|exact⟨rfl,HS⟩|rfl|exact⟨by omega,HS.out⟩
   case z26|z27|z28|z29|z30=>
    intro w' hS;refine OpTo.wanted ?_ ?_
    kernel_rfl
    have d0_0:=(O0.out.below hS O0.out.lt).cell 0;have d0_1:=(O0.out.below hS O0.out.lt).cell 1;have d0_2:=(O0.out.below hS O0.out.lt).cell 2;have d0_3:=(O0.out.below hS O0.out.lt).cell 3;have d0_4:=(O0.out.below hS O0.out.lt).cell 4;have d0_5:=(O0.out.below hS O0.out.lt).cell 5;have d0_6:=(O0.out.below hS O0.out.lt).cell 6;simp at d0_0 d0_1 d0_2 d0_3 d0_4 d0_5 d0_6;have HS:=yH hS;clear hS;go_wp2_with fail;all_goals first|exact HS|exact⟨rfl,HS⟩|rfl|exact⟨by omega,HS.out⟩
   case z31|z32|z33|z34|z35|z36|z37|z38|z39=>
    intro w' hS;refine OpTo.wanted ?_ ?_
    kernel_rfl
    have HS:=yH hS;clear hS;go_wp2_with fail;all_goals first|exact HS|exact⟨rfl,HS⟩|rfl|exact⟨by omega,HS.out⟩
   case z40|z41|z42|z43|z44|z45=>
    intro w' hS;refine OpTo.wanted ?_ ?_
    kernel_rfl
    have hl0:=yM A_147.out.lt hS.size;have HS:=yH hS;clear hS;go_wp2_with fail;all_goals first|exact HS|exact⟨rfl,HS⟩|rfl|exact⟨by omega,HS.out⟩
   case z46|z47|z48|z49|z50|z51=>
    intro w' hS;refine OpTo.wanted ?_ ?_
    kernel_rfl
    have d0_0:=(A_147.out.below hS A_147.out.lt).cell 0;have d0_1:=(A_147.out.below hS A_147.out.lt).cell 1;have d0_2:=(A_147.out.below hS A_147.out.lt).cell 2;have d0_3:=(A_147.out.below hS A_147.out.lt).cell 3;have d0_4:=(A_147.out.below hS A_147.out.lt).cell 4;have d0_5:=(A_147.out.below hS A_147.out.lt).cell 5;have d0_6:=(A_147.out.below hS A_147.out.lt).cell 6;simp at d0_0 d0_1 d0_2 d0_3 d0_4 d0_5 d0_6;have HS:=yH hS;clear hS;go_wp2_with fail;all_goals first|exact HS|exact⟨rfl,HS⟩|rfl|exact⟨by omega,HS.out⟩
   case z52|z53|z54|z55=>
    intro w' hS;refine OpTo.wanted ?_ ?_
    kernel_rfl
    have hl0:=yM V_158.out.lt hS.size;have HS:=yH hS;clear hS;go_wp2_with fail;all_goals first|exact HS|exact⟨rfl,HS⟩|rfl|exact⟨by omega,HS.out⟩
   case z56|z57|z58|z59=>
    intro w' hS;refine OpTo.wanted ?_ ?_
    kernel_rfl
    have d0_0:=(V_158.out.below hS V_158.out.lt).cell 0;have d0_1:=(V_158.out.below hS V_158.out.lt).cell 1;have d0_2:=(V_158.out.below hS V_158.out.lt).cell 2;have d0_3:=(V_158.out.below hS V_158.out.lt).cell 3;have d0_4:=(V_158.out.below hS V_158.out.lt).cell 4;simp at d0_0 d0_1 d0_2 d0_3 d0_4;have HS:=yH hS;clear hS;go_wp2_with fail;all_goals first|exact HS|exact⟨rfl,HS⟩|rfl|exact⟨by omega,HS.out⟩
   ·intro w' hS;refine OpTo.wanted ?_ ?_
    kernel_rfl
    have HS:=yH hS;clear hS;go_wp2_with fail;refine(CI.out _).mono ?_;rintro e w'' ⟨rfl,hb2⟩;exact⟨rfl,andB HS.out hb2⟩
   intro w' hS;refine OpTo.wanted ?_ ?_
   kernel_rfl
   have HS:=yH hS;clear hS;go_wp2_with fail;refine(CM1.out _).mono ?_;rintro e w'' ⟨rfl,hb2⟩;exact⟨rfl,andB HS.out hb2⟩
  intro w9 hS9;clear z1 z2 z3 z4 z5 z6 z7 z7b z8 z9 CI CM1;have A_159:=yB A_147 hS9;have B_160:=yT B_148 hS9;have m_161:=yH (m_149.out.below hS9);have q_162:=yH (q_150.out.below hS9);have C_163:=yB C_151 hS9;have l_164:=yH (l_152.out.below hS9);have p_165:=yH (p_153.out.below hS9);have w_166:=yH (w_154.out.below hS9);have F_167:=yB F_155 hS9;have b_168:=yB b_156 hS9;have K_169:=yH (K_157.out.trans (pAD hS9));have V_170:=yB V_158 hS9;have O_171:=yB O0 hS9;clear A_147 B_148 m_149 q_150 C_151 l_152 p_153 w_154 F_155 b_156 K_157 V_158 O0;clear hS9;have KB3b:=yH b_168.out;have o0:=O_171.out.cell 0;have o1:=O_171.out.cell 1;have o2:=O_171.out.cell 2;have o3:=O_171.out.cell 3;have o4:=O_171.out.cell 4;have o5:=O_171.out.cell 5;have o6:=O_171.out.cell 6;have ol:=O_171.out.lt;simp at o0 o1 o2 o3 o4 o5 o6;have kl:=b_168.out.lt;have kb1:=b_168.out.bitP (p:=o.ow) (by omega) (by omega);have kz1:=b_168.out.frozen o.ow.toNat;have kk:Keep (·=X8) w9 (w9.setCell ⟨X8,o.ow.toNat,none⟩ (.bool true)):=Keep.setCell (S:=(·=X8)) (Keep.refl _ _) (p:=⟨X8,o.ow.toNat,none⟩) (.inl rfl) _;have h2:=b_168.out.set o.ow.toNat (.bool true);rw[aMt _ (by omega)]at h2;have KB3:=yH h2;have KK:=yH kk;clear h2 kk
  go_upto_region 22 with fail
  clear kl kb1 kz1 b_168;generalize w9.setCell ⟨X8,o.ow.toNat,none⟩ (.bool true)=w10 at *;clear o0 o1 o2 o3 o4 o5 o6 ol;have KV9:=yH (V_170.out.keep KK.out (fun e=>by have h1:=V_170.out;have h2:=KB3b.out;subst e;exact absurd rfl (aG4 h1 h2 (by decide))));have KA9:=yH (A_159.out.keep KK.out (by have:=LT8.out;omega));have KK7:=yH (K_169.out.trans KK.out)
  have PT7:Hid (PartsP l y.ow y.ow σ.fs (k+1) (fun j=>j==o.ow.toNat || f j)):=yH (by
   intro j hj;simp only[Bool.or_eq_false_iff,beq_eq_false_iff_ne]at hj;obtain⟨h1,h2,h3⟩:=PTr.out j hj.2;refine⟨h1,h2,fun x hx o2 ho2=>?_⟩;rw[HT2.out]at hx;rcases List.mem_append.1 hx with hx|hx
   ·exact h3 x hx o2 ho2
   rw[List.mem_singleton]at hx;subst hx;rw[OFN.out]at ho2
   cases ho2
   have:=hj.1;omega)
  clear KK KB3b;obtain⟨⟨g1,g2⟩,g3,g4⟩:=BQ.out;have hmb:mayB y.nu y.de=true:=DN.out.may.2.2.2.2.2;obtain⟨n1_,n2_,n3_,n4_,_⟩:=aC3 hmb;clear hmb;have rt:=RTE.out;have C1:=yH (fun w=>aDq q y.de w ⟨by omega,by omega⟩ ⟨by omega,by omega⟩);have C2:=yH (fun w=>aDq (x - 1) y.nu w ⟨by omega,by omega⟩ ⟨by omega,by omega⟩);have WG:=words_gt rt;generalize q*y.de=pp at *;generalize (x - 1)*y.nu=qq at *;obtain⟨pa,hpa⟩:∃pa,pp/18446744073709551616=pa:=⟨_,rfl⟩;obtain⟨pb,hpb⟩:∃pb,pp%18446744073709551616=pb:=⟨_,rfl⟩;obtain⟨qa,hqa⟩:∃qa,qq/18446744073709551616=qa:=⟨_,rfl⟩;obtain⟨qb,hqb⟩:∃qb,qq%18446744073709551616=qb:=⟨_,rfl⟩;rw[hpa,hpb,hqa,hqb]at WG;obtain⟨t1,t2⟩:=WG;rw[hpa,hpb]at C1;rw[hqa,hqb]at C2;have T2:=yH t2;clear hpa hpb hqa hqb t2 rt RTE;have e3:=KV9.out.cell 3;have e4:=KV9.out.cell 4;have el:=KV9.out.lt;have a5:=KA9.out.cell 5;have a6:=KA9.out.cell 6;have al:=KA9.out.lt;simp at e3 e4 a5 a6;have hkl:=HKL.out;have hl64:=HLN.out;go_wp2_with fail;refine(C1.out _).mono ?_;rintro e w_172 ⟨rfl,rfl⟩;go_wp2_with fail;refine(C2.out _).mono ?_;rintro e w_173 ⟨rfl,rfl⟩;rcases T2.out with⟨t2,t3⟩|t2
  ·go_wp2_with fail;exact⟨⟨k+1,_,by omega,by go_num,KB3.out,PT7.out,KK7.out⟩,by simp[intOf];omega⟩
  go_wp2_with fail;exact⟨⟨k+1,_,by omega,by go_num,KB3.out,PT7.out,KK7.out⟩,by simp[intOf];omega⟩
 have hkn:k=σ.fs.length:=by omega
 subst hkn;have q0:decide (((σ.fs.length:Nat):Int)<(σ.fs.length:Int))=false:=by simp
 have GSUM:=yH DN.out.inv.sum;have GNN:=yH DN.out.inv.nn;have GIN:=yH DN.out.inv.gi_nn;have HLF:=yH (show 1≤y.lf∧y.lf≤1099511627776 from DN.out.may.2.2.2.2.1);have HGI:=yH (DN.out.inv.giver (show y.bu≠y.sl from fun e=>DN.out.may.2.2.2.1 e.symm));have CG:=yH (pgiven_in (aJq w_122.out) (fun f hf=>by rw[FS.out]at hf;obtain⟨_,_,_,_,_,_,_,_,h1,_⟩:=DN.out.inv.fs f hf;exact⟨by omega,by omega⟩) (by have:=HLN.out;omega) HCAP.out.1 HCAP.out.2);rw[FS.out]at CG;obtain⟨gs,hgs⟩:∃gs,(τ.fs.map Fl.gi).sum=gs:=⟨_,rfl⟩;rw[hgs]at GSUM GIN CG HGI;rw[show okN gs=gs from if_pos ⟨by have:=GIN.out;omega,by have:=GSUM.out;have:=GNN.out;have:=HLF.out;omega⟩]at CG;clear hgs;rw[←FS.out]at CG;obtain⟨tn,htn⟩:∃tn,τ.n=tn:=⟨_,rfl⟩;rw[htn]at GSUM GNN;have LQ:=yH (show σ.ls=τ.ls by rcases DN.out.ends with⟨_,h,_⟩|⟨_,_,_,h,_⟩ <;> rw[h])
 have CE:=yH (fun(w':World) (h:Below wr.heap.size wr w')=>even_any (gb:=some ⟨gb2,0,none⟩) (gb2:=some ⟨gb1,0,none⟩) (f:=f) (l_119.out.below h) I2.out (m_118.out.below h) II.out (by rw[LQ.out];exact DN.out.inv.lim) (fun k c hk hf=>by
  rw[LQ.out];obtain⟨h1,h2,h3⟩:=PTr.out k hf;exact DN.out.inv.aside h1 (fun x hx o ho=>h3 x (by rw[List.take_length,FS.out];exact hx) o ho) c))
 have CMv:=yH (fun(w':World) (h:Below wr.heap.size wr w')=>(show Calls Tryz.prog 29 #[.pointer (some ⟨G2,0,none⟩),.pointer (some ⟨G1,0,none⟩),.int .u8 y.ow,.int .u8 y.sl,.int .i64 (-gs)] w' fun e w''=>e=.returned (.bool true)∧Below w'.heap.size w' w'' from by
  have z:=moved_any (l_119.out.below h) I2.out (m_118.out.below h) II.out y.ow y.sl (n := -gs) (by have:=GIN.out;have:=GSUM.out;have:=GNN.out;have:=HLF.out;omega) (by have:=GIN.out;omega);rw[LQ.out,decide_eq_true HGI.out]at z;exact z))
 go_wp2_with fail;refine(CG.out).mono ?_;rintro e w_174 ⟨rfl,b⟩;have BG:=yH b;have A_175:=yB A_115 b;have B_176:=yT B_123 b;have m_177:=yH (m_118.out.below b);have q_178:=yH (q_120.out.below b);have C_179:=yB C_116 b;have l_180:=yH (l_119.out.below b);have p_181:=yH (p_121.out.below b);have w_182:=yH (w_122.out.below b);have F_183:=yB F_117 b;have b_184:=yB KBr b;clear A_115 B_123 m_118 q_120 C_116 l_119 p_121 w_122 F_117 KBr;clear b;have HTN:=yH htn;clear htn CG;rcases DN.out.ends with⟨hn0,hst,hNN,hsq⟩|⟨hn1,hfn,hpe,hst,hNN,hsq⟩
 ·skip
  have hz:tn=0:=by rw[←HTN.out];exact hn0
  clear hst hn0;subst hNN hsq;have s0:=GSUM.out;have s1:=GIN.out;have s2:=HLF.out;have qs:decide ((0:Int) > 0)=false:=by decide
  have qg:(gs != y.lf)=false:=by simp;omega
  have qg2:(gs+0 != y.lf)=false:=by simp;omega
  have g0:0≤gs:=by omega
  have g1:gs≤1099511627776:=by omega
  clear hz s0 s1 s2;have a0:=A_175.out.cell 0;have a1:=A_175.out.cell 1;have a2:=A_175.out.cell 2;have a3:=A_175.out.cell 3;have a4:=A_175.out.cell 4;have a5:=A_175.out.cell 5;have a6:=A_175.out.cell 6;have al:=A_175.out.lt;simp at a0 a1 a2 a3 a4 a5 a6;have f0:=F_183.out.cell 0;have f1:=F_183.out.cell 1;have fl:=F_183.out.lt;simp at f0 f1;have c0:=C_179.out.cell 0;have c1:=C_179.out.cell 1;have cl:=C_179.out.lt;simp at c0 c1;have CEn:=yH (CE.out _ BG.out);go_wp2_with (refine aEi 57 (.tmp 11) ?_ X8 ?_ 57 (aDu f) (0,0) _ b_184.out.out Tryz.underlying57 ?_ (aNb _) ?_ ?_;exact rfl;exact rfl;exact rfl;exact(by kernel_rfl));refine CEn.out.mono ?_;rintro e w_185 ⟨rfl,b⟩;have BRn:=yH (andB BG.out b);have CMn:=yH (CMv.out _ BRn.out);clear CEn;clear a0 a1 a2 a3 a4 a5 a6 al f0 f1 fl c0 c1 cl;have A_186:=yB A_175 b;have B_187:=yT B_176 b;have m_188:=yH (m_177.out.below b);have q_189:=yH (q_178.out.below b);have C_190:=yB C_179 b;have l_191:=yH (l_180.out.below b);have p_192:=yH (p_181.out.below b);have w_193:=yH (w_182.out.below b);have F_194:=yB F_183 b;have b_195:=yB b_184 b;clear A_175 B_176 m_177 q_178 C_179 l_180 p_181 w_182 F_183 b_184;clear b;have a0:=A_186.out.cell 0;have a1:=A_186.out.cell 1;have a2:=A_186.out.cell 2;have a3:=A_186.out.cell 3;have a4:=A_186.out.cell 4;have a5:=A_186.out.cell 5;have a6:=A_186.out.cell 6;have al:=A_186.out.lt;simp at a0 a1 a2 a3 a4 a5 a6;have f0:=F_194.out.cell 0;have f1:=F_194.out.cell 1;have fl:=F_194.out.lt;simp at f0 f1;have c0:=C_190.out.cell 0;have c1:=C_190.out.cell 1;have cl:=C_190.out.lt;simp at c0 c1;go_wp2_with fail;refine(CMn.out).mono ?_;rintro e w_196 ⟨rfl,b⟩;clear a0 a1 a2 a3 a4 a5 a6 al f0 f1 fl c0 c1 cl;have A_197:=yB A_186 b;have B_198:=yT B_187 b;have m_199:=yH (m_188.out.below b);have q_200:=yH (q_189.out.below b);have C_201:=yB C_190 b;have l_202:=yH (l_191.out.below b);have p_203:=yH (p_192.out.below b);have w_204:=yH (w_193.out.below b);have F_205:=yB F_194 b;have b_206:=yB b_195 b;clear A_186 B_187 m_188 q_189 C_190 l_191 p_192 w_193 F_194 b_195;clear b;clear CMn;go_wp2_with fail;refine(HLo.out _).mono ?_;rintro e w_207 ⟨rfl,b⟩;have A_208:=yB A_197 b;have B_209:=yT B_198 b;have m_210:=yH (m_199.out.below b);have q_211:=yH (q_200.out.below b);have C_212:=yB C_201 b;have l_213:=yH (l_202.out.below b);have p_214:=yH (p_203.out.below b);have w_215:=yH (w_204.out.below b);have F_216:=yB F_205 b;have b_217:=yB b_206 b;clear A_197 B_198 m_199 q_200 C_201 l_202 p_203 w_204 F_205 b_206;clear b;go_wp2_with fail;go_ret;exact⟨rfl,B_209.out⟩
 skip
 have h1:1≤tn:=by rw[←HTN.out];exact hn1
 have hN1:=JJ.out.n1;have LS2:=yH (show σ.l=τ.l++[(⟨N,y.ow,y.sl,y.bu,tn,y.nu,y.de⟩:Of)] by rw[hst,←HTN.out]);clear hst hfn hpe hn1;subst hsq hNN;have s0:=GSUM.out;have s1:=GIN.out;have s2:=HLF.out;have qs:decide (sq > 0)=true:=by simp;omega
 have qs2:decide (0<sq)=true:=by simp;omega
 have qg:(gs+tn != y.lf)=false:=by simp;omega
 have qt:(tn==0)=false:=by simp;omega
 have qq:(sq==0)=false:=by simp;omega
 have qn:(sq != sq)=false:=by simp
 have g0:0≤gs:=by omega
 have g1:gs≤1099511627776:=by omega
 have g2:0≤tn:=by omega
 have g3:tn≤1099511627776:=by omega
 clear s0 s1 s2 h1 hN1;have FND:=yH (show aA4 σ.l sq=some (⟨sq,y.ow,y.sl,y.bu,tn,y.nu,y.de⟩:Of)from by rw[LS2.out];unfold aA4;rw[List.find?_append,List.find?_eq_none.2 (fun z hz=>by have:=DN.out.inv.binv.bd z hz;simp;omega)];simp);have CFi:=yH (show Calls Tryz.prog 22 #[.pointer (some ⟨gb2,0,none⟩),.int .u64 sq] w_174 fun e w''=>e=.returned (.tuple #[.agg #[.int .u64 sq,.int .u8 y.ow,.int .u8 y.sl,.int .u8 y.bu,.int .i64 tn,.int .i64 y.nu,.int .i64 y.de],.bool true])∧Below w_174.heap.size w_174 w'' from by have z:=aEf p_181.out J2.out.n1 sq;rw[FND.out]at z;exact z);have f0:=F_183.out.cell 0;have f1:=F_183.out.cell 1;have fl:=F_183.out.lt;simp at f0 f1;go_wp2_with fail;refine CFi.out.mono ?_;rintro e w21 ⟨rfl,b21⟩;have BG2:=yH (andB BG.out b21);clear f0 f1 fl;have A_218:=yB A_175 b21;have B_219:=yT B_176 b21;have m_220:=yH (m_177.out.below b21);have q_221:=yH (q_178.out.below b21);have C_222:=yB C_179 b21;have l_223:=yH (l_180.out.below b21);have p_224:=yH (p_181.out.below b21);have w_225:=yH (w_182.out.below b21);have F_226:=yB F_183 b21;have b_227:=yB b_184 b21;clear A_175 B_176 m_177 q_178 C_179 l_180 p_181 w_182 F_183 b_184;clear b21 CFi;have bf:=(Below.refl w21.heap.size w21).alloc yL (.cells #[.int .u64 sq,.int .u8 y.ow,.int .u8 y.sl,.int .u8 y.bu,.int .i64 tn,.int .i64 y.nu,.int .i64 y.de] 48);have Q0:=yH (pAA w21 #[.int .u64 sq,.int .u8 y.ow,.int .u8 y.sl,.int .u8 y.bu,.int .i64 tn,.int .i64 y.nu,.int .i64 y.de] 48);have A_228:=yB A_218 bf;have B_229:=yT B_219 bf;have m_230:=yH (m_220.out.below bf);have q_231:=yH (q_221.out.below bf);have C_232:=yB C_222 bf;have l_233:=yH (l_223.out.below bf);have p_234:=yH (p_224.out.below bf);have w_235:=yH (w_225.out.below bf);have F_236:=yB F_226 bf;have b_237:=yB b_227 bf;clear A_218 B_219 m_220 q_221 C_222 l_223 p_224 w_225 F_226 b_227;clear bf;have BG3:=yH (andB BG2.out ((Below.refl w21.heap.size w21).alloc yL (.cells #[.int .u64 sq,.int .u8 y.ow,.int .u8 y.sl,.int .u8 y.bu,.int .i64 tn,.int .i64 y.nu,.int .i64 y.de] 48)));have CNx:=yH (aG0 q_231.out.blk);have q0:=Q0.out.cell 0;have q1:=Q0.out.cell 1;have q2:=Q0.out.cell 2;have q3:=Q0.out.cell 3;have q4:=Q0.out.cell 4;have q5:=Q0.out.cell 5;have q6:=Q0.out.cell 6;have ql:=Q0.out.lt;simp at q0 q1 q2 q3 q4 q5 q6;have c0:=C_232.out.cell 0;have c1:=C_232.out.cell 1;have cl:=C_232.out.lt;simp at c0 c1;have a0:=A_228.out.cell 0;have a1:=A_228.out.cell 1;have a2:=A_228.out.cell 2;have a3:=A_228.out.cell 3;have a4:=A_228.out.cell 4;have a5:=A_228.out.cell 5;have a6:=A_228.out.cell 6;have al:=A_228.out.lt;simp at a0 a1 a2 a3 a4 a5 a6;go_wp2_with fail;generalize w21.alloc (.cells #[.int .u64 sq,.int .u8 y.ow,.int .u8 y.sl,.int .u8 y.bu,.int .i64 tn,.int .i64 y.nu,.int .i64 y.de] 48)=w22 at *;refine(CNx.out).mono ?_;rintro e w_238 ⟨rfl,rfl⟩;clear q0 q1 q2 q3 q4 q5 q6 ql c0 c1 cl a0 a1 a2 a3 a4 a5 a6 al;have a0:=A_228.out.cell 0;have a1:=A_228.out.cell 1;have a2:=A_228.out.cell 2;have a3:=A_228.out.cell 3;have a4:=A_228.out.cell 4;have a5:=A_228.out.cell 5;have a6:=A_228.out.cell 6;have al:=A_228.out.lt;simp at a0 a1 a2 a3 a4 a5 a6;have f0:=F_236.out.cell 0;have f1:=F_236.out.cell 1;have fl:=F_236.out.lt;simp at f0 f1;have c0:=C_232.out.cell 0;have c1:=C_232.out.cell 1;have cl:=C_232.out.lt;simp at c0 c1;have q0:=Q0.out.cell 0;have q1:=Q0.out.cell 1;have q2:=Q0.out.cell 2;have q3:=Q0.out.cell 3;have q4:=Q0.out.cell 4;have q5:=Q0.out.cell 5;have q6:=Q0.out.cell 6;have ql:=Q0.out.lt;simp at q0 q1 q2 q3 q4 q5 q6;have CEn:=yH (CE.out _ BG3.out);go_wp2_with (refine aEi 57 (.tmp 11) ?_ X8 ?_ 57 (aDu f) (0,0) _ b_237.out.out Tryz.underlying57 ?_ (aNb _) ?_ ?_;exact rfl;exact rfl;exact rfl;exact(by kernel_rfl));refine CEn.out.mono ?_;rintro e w_239 ⟨rfl,b⟩;have BRn:=yH (andB BG3.out b);have CMn:=yH (CMv.out _ BRn.out);clear CEn;clear a0 a1 a2 a3 a4 a5 a6 al f0 f1 fl c0 c1 cl q0 q1 q2 q3 q4 q5 q6 ql;have A_240:=yB A_228 b;have B_241:=yT B_229 b;have m_242:=yH (m_230.out.below b);have q_243:=yH (q_231.out.below b);have C_244:=yB C_232 b;have l_245:=yH (l_233.out.below b);have p_246:=yH (p_234.out.below b);have w_247:=yH (w_235.out.below b);have F_248:=yB F_236 b;have b_249:=yB b_237 b;have Q_250:=yB Q0 b;clear A_228 B_229 m_230 q_231 C_232 l_233 p_234 w_235 F_236 b_237 Q0;clear b;have a0:=A_240.out.cell 0;have a1:=A_240.out.cell 1;have a2:=A_240.out.cell 2;have a3:=A_240.out.cell 3;have a4:=A_240.out.cell 4;have a5:=A_240.out.cell 5;have a6:=A_240.out.cell 6;have al:=A_240.out.lt;simp at a0 a1 a2 a3 a4 a5 a6;have f0:=F_248.out.cell 0;have f1:=F_248.out.cell 1;have fl:=F_248.out.lt;simp at f0 f1;have c0:=C_244.out.cell 0;have c1:=C_244.out.cell 1;have cl:=C_244.out.lt;simp at c0 c1;go_wp2_with fail;refine(CMn.out).mono ?_;rintro e w_251 ⟨rfl,b⟩;clear a0 a1 a2 a3 a4 a5 a6 al f0 f1 fl c0 c1 cl;have A_252:=yB A_240 b;have B_253:=yT B_241 b;have m_254:=yH (m_242.out.below b);have q_255:=yH (q_243.out.below b);have C_256:=yB C_244 b;have l_257:=yH (l_245.out.below b);have p_258:=yH (p_246.out.below b);have w_259:=yH (w_247.out.below b);have F_260:=yB F_248 b;have b_261:=yB b_249 b;have Q_262:=yB Q_250 b;clear A_240 B_241 m_242 q_243 C_244 l_245 p_246 w_247 F_248 b_249 Q_250;clear b;clear CMn;go_wp2_with fail;refine(HLo.out _).mono ?_;rintro e w_263 ⟨rfl,b⟩;have A_264:=yB A_252 b;have B_265:=yT B_253 b;have m_266:=yH (m_254.out.below b);have q_267:=yH (q_255.out.below b);have C_268:=yB C_256 b;have l_269:=yH (l_257.out.below b);have p_270:=yH (p_258.out.below b);have w_271:=yH (w_259.out.below b);have F_272:=yB F_260 b;have b_273:=yB b_261 b;have Q_274:=yB Q_262 b;clear A_252 B_253 m_254 q_255 C_256 l_257 p_258 w_259 F_260 b_261 Q_262;clear b;go_wp2_with fail;go_ret;exact⟨rfl,B_265.out⟩
end Go.Proofs.YtaeocliklpcgmaaGreat
