/- Pieces of one proof. -/
import Derived.Test.YtojbmnbphdcjfaaGreatP30
set_option linter.all false
set_option maxHeartbeats 64000000
set_option maxRecDepth 100000
namespace Go.Proofs.YtojbmnbphdcjfaaGreat
open Go.RowKit
theorem aOj{P:Program}(w:World)(t e:TypeId)(ht:P.underlying t=some (.slice e))(hs:(sizeOf e).run P w=.ok 7 w):
  (Instr.sliceAt t (.slice none 0 0) none (some (.int .i64 0)) none).run P w=.ok (.slice none 0 0) w:=by
 simp[Instr.sliceAt,Instr.slice,run_underlying ht,Instr.sliceBounds,run_sliceBound,hs,Result.andThen,Addr.add]
theorem aMf{P:Program}(w:World)(t e:TypeId)(ht:P.underlying t=some (.slice e))(hs:(sizeOf e).run P w=.ok 7 w):
  (Instr.sliceAt t (.slice none 0 0) (some (.int .i64 0)) none none).run P w=.ok (.slice none 0 0) w:=by
 simp[Instr.sliceAt,Instr.slice,run_underlying ht,Instr.sliceBounds,run_sliceBound,hs,Result.andThen,Addr.add]
theorem aQb{w:World}{base:Nat}{v:Value}{n:Nat}{xs:List Value}(hown:w.ownsRow base 76 7 v n xs)(hn:n≤1000)(b cap j:Nat)(out:List Of)(hj:j≤out.length)(hcap:out.length≤cap)
  (hc:∀q,q<out.length*7→w.cell? ⟨b,q,none⟩=(aAa out)[q]?)(hl:out.length≤1000)(ty:TypeId)(hb:base≤w.heap.size):
  ∃v' w',(Builtin.append_ #[23,23] ty #[v,.slice (some (aHo b j cap)) (out.length - j) (cap - j)]).run Tryz.prog w=.ok v' w'∧w'.ownsRow base 76 7 v' (n+(out.length - j)) (xs++aAa (out.drop j))∧w.grownBy w' v.ownBlock:=by
 unfold aHo
 by_cases h:cap=j
 ·rw[if_pos h];exact aH3 hown hn b 0 (out.length - j) (cap - j) (by omega) (out.drop j) (by rw[List.length_drop]) (fun q hq=>by omega) ty hb
 rw[if_neg h];exact aH3 hown hn b (j*7) (out.length - j) (cap - j) (by omega) (out.drop j) (by rw[List.length_drop]) (fun q hq=>by rw[aQa out hj,hc _ (by omega)]) ty hb
theorem best_r11{W:World}{base j:Nat}{v:Value}{out:List Of}(HO:Hid (W.ownsRow base 76 7 v out.length (aAa out)))(hj:j≤out.length)(hl:out.length≤500){Q:Exit→Act→World→Prop}{c0 c1 c2 c3 c4 c5 c6 c8 c9 c12 c13 c14 c15 c16 c17 c18 c19 c20 c21 c22 c23 c24 c25 c26 c27 c28 c29 c30 c31 c32 c33 c34 c35 c36 c37 c38 c39 c40 c41 c42 c43 c44 c45 c46 c47 c48 c49 c50 c51 c52 c53 c54 c55 c56 c57 c58 c59 c60 c61 c62 c63 c64 c65 c66 c67 c68 c69:Value}
  (hq:∀(v1:Value) (d55 d56 d57 d58:Value) w6,(w6.ownsRow W.heap.size 76 7 v1 j (aAa (out.take j))∧Below W.heap.size W w6)→Q .normal ⟨#[c0,c1,c2,c3,c4,c5,c6,v,c8,c9,(.int .i64 (j:Nat)),v1,c12,c13,c14,c15,c16,c17,c18,c19,c20,c21,c22,c23,c24,c25,c26,c27,c28,c29,c30,c31,c32,c33,c34,c35,c36,c37,c38,c39,c40,c41,c42,c43,c44,c45,c46,c47,c48,c49,c50,c51,c52,c53,c54,d55,d56,d57,d58,v1,c60,c61,c62,c63,c64,c65,c66,c67,c68,c69],[]⟩ w6):
  Code.wp Tryz.prog (((Tryz.f44.body).bind (aCb 11)).getD .skip) Q ⟨#[c0,c1,c2,c3,c4,c5,c6,v,c8,c9,(.int .i64 (j:Nat)),(.slice none 0 0),c12,c13,c14,c15,c16,c17,c18,c19,c20,c21,c22,c23,c24,c25,c26,c27,c28,c29,c30,c31,c32,c33,c34,c35,c36,c37,c38,c39,c40,c41,c42,c43,c44,c45,c46,c47,c48,c49,c50,c51,c52,c53,c54,c55,c56,c57,c58,c59,c60,c61,c62,c63,c64,c65,c66,c67,c68,c69],[]⟩ W:=by
 conv=>arg 2;whnf
 have HQ:=yH hq;clear hq;rcases HO.out.2 with⟨rfl,hn0⟩|⟨b,cap,cur,rfl,hbw,hcur,hnc,hcm,hsz,htk⟩
 ·have hj0:j=0:=by omega
  subst hj0;have hr1:=fun ty=>aJx (w:=W) (base:=W.heap.size) (v:=.slice none 0 0) (n:=0) (xs:=[]) (World.ownsRow_nil _ _ _ _) ty
  have hs:=fun w=>aOj (P:=Tryz.prog) w 23 76 Tryz.underlying23 (Tryz.sizeOf76 w)
  go_wp2_with (at_builtin;refine aCt rfl (.tmp 55) (.tmp 58) 23 rfl rfl rfl (hr1 _) ?_);exact HQ.out _ _ _ _ _ _ ⟨by simpa [aAa]using World.ownsRow_nil W W.heap.size _ _,yZ⟩
 have hc:∀q,q<out.length*7→W.cell? ⟨b,q,none⟩=(aAa out)[q]? := fun q hq=>by
  have:=HO.out.cellAt q hq;exact this
 obtain⟨v1,u1,hr1,ho1,hg1⟩:=aH3 (w:=W) (base:=W.heap.size) (v:=.slice none 0 0) (n:=0) (xs:=[]) (World.ownsRow_nil _ _ _ _) (by omega) b 0 j cap (by omega) (out.take j) (by rw[List.length_take];omega) (fun q hq=>by rw[Nat.zero_add,hc q (by omega),aP9 out (by omega) hq]) 23 yL;rw[Nat.zero_add,List.nil_append]at ho1;have c1:Below W.heap.size W u1:=yZ.grown hg1 yL (fun k hk=>by cases hk);have HE:=yH (And.intro ho1 c1);have hic:j≤cap:=by omega
 unfold maxLen at hcm;clear hc ho1 hg1 c1 hcur htk hsz;go_wp2_with (at_builtin;refine aCt rfl (.tmp 55) (.tmp 58) 23 rfl rfl rfl hr1 ?_);exact HQ.out _ _ _ _ _ _ HE.out
theorem best_r12{W:World}{base X:Nat}{v:Value}{ls:List Of}{x:Of}(HO:Hid (W.ownsRow base 76 7 v ls.length (aAa ls)))(KX:Hid (Blk W X #[.int .u64 x.se,.int .u8 x.ow,.int .u8 x.sl,.int .u8 x.bu,.int .i64 x.lf,.int .i64 x.nu,.int .i64 x.de] 76))(hb:base≤W.heap.size)(hl:ls.length≤500){Q:Exit→Act→World→Prop}{c0 c1 c2 c3 c4 c5 c6 c7 c8 c10 c12 c13 c14 c15 c16 c17 c18 c19 c20 c21 c22 c23 c24 c25 c26 c27 c28 c29 c30 c31 c32 c33 c34 c35 c36 c37 c38 c39 c40 c41 c42 c43 c44 c45 c46 c47 c48 c49 c50 c51 c52 c53 c54 c55 c56 c57 c58 c59 c60 c61 c62 c63 c64 c65 c66 c67 c68 c69:Value}
  (hq:∀(v2:Value) (d60 d61 d62:Value) w6,(w6.ownsRow base 76 7 v2 (ls++[x]).length (aAa (ls++[x]))∧∀B,B≤base→Below B W w6)→Q .normal ⟨#[c0,c1,c2,c3,c4,c5,c6,c7,c8,(.pointer (some ⟨X,0,none⟩)),c10,v2,c12,c13,c14,c15,c16,c17,c18,c19,c20,c21,c22,c23,c24,c25,c26,c27,c28,c29,c30,c31,c32,c33,c34,c35,c36,c37,c38,c39,c40,c41,c42,c43,c44,c45,c46,c47,c48,c49,c50,c51,c52,c53,c54,c55,c56,c57,c58,c59,d60,d61,d62,v2,c64,c65,c66,c67,c68,c69],[]⟩ w6):
  Code.wp Tryz.prog (((Tryz.f44.body).bind (aCb 12)).getD .skip) Q ⟨#[c0,c1,c2,c3,c4,c5,c6,c7,c8,(.pointer (some ⟨X,0,none⟩)),c10,v,c12,c13,c14,c15,c16,c17,c18,c19,c20,c21,c22,c23,c24,c25,c26,c27,c28,c29,c30,c31,c32,c33,c34,c35,c36,c37,c38,c39,c40,c41,c42,c43,c44,c45,c46,c47,c48,c49,c50,c51,c52,c53,c54,c55,c56,c57,c58,c59,c60,c61,c62,c63,c64,c65,c66,c67,c68,c69],[]⟩ W:=by
 conv=>arg 2;whnf
 have HQ:=yH hq;clear hq;have kl:=KX.out.lt;have y0:=KX.out.cell 0;have y1:=KX.out.cell 1;have y2:=KX.out.cell 2;have y3:=KX.out.cell 3;have y4:=KX.out.cell 4;have y5:=KX.out.cell 5;have y6:=KX.out.cell 6;simp at y0 y1 y2 y3 y4 y5 y6;go_wp2_with (at_builtin;refine aDg _ rfl (.tmp 60) (.tmp 62) rfl base _ ls rfl (HO.out.alloc _) _ _ x rfl (pAA _ _ _) (by omega) (by simp;omega) ?_);intro v2 u2 ho2 hg2;have ho3:u2.ownsRow base 76 7 v2 (ls++[x]).length (aAa (ls++[x])):=by simpa using ho2
 have c2:∀B,B≤base→Below B W u2:=fun B hB=>((Below.refl B W).alloc (Nat.le_trans hB hb) _).grown hg2 (by simp;omega) (fun k hk=>Nat.le_trans hB (aAe HO.out hk).1)
 have HE:=yH (And.intro ho3 c2);clear ho2 ho3 hg2 c2;go_wp2_with fail;exact HQ.out _ _ _ _ _ HE.out
theorem best_r13{W:World}{base base2 j n:Nat}{v v2:Value}{out:List Of}{xs:List Value}(HO:Hid (W.ownsRow base2 76 7 v out.length (aAa out)))(H2:Hid (W.ownsRow base 76 7 v2 n xs))(hj:j≤out.length)(hl:out.length≤500)(hn:n≤1000)(hb:base≤W.heap.size){Q:Exit→Act→World→Prop}{c0 c1 c2 c3 c4 c5 c6 c8 c9 c12 c13 c14 c15 c16 c17 c18 c19 c20 c21 c22 c23 c24 c25 c26 c27 c28 c29 c30 c31 c32 c33 c34 c35 c36 c37 c38 c39 c40 c41 c42 c43 c44 c45 c46 c47 c48 c49 c50 c51 c52 c53 c54 c55 c56 c57 c58 c59 c60 c61 c62 c63 c64 c65 c66 c67 c68 c69:Value}
  (hq:∀(v3:Value) (d64 d65 d66 d67:Value) w6,(w6.ownsRow base 76 7 v3 (n+(out.length - j)) (xs++aAa (out.drop j))∧∀B,B≤base→Below B W w6)→Q .normal ⟨#[c0,c1,c2,c3,c4,c5,c6,v3,c8,c9,(.int .i64 (j:Nat)),v2,c12,c13,c14,c15,c16,c17,c18,c19,c20,c21,c22,c23,c24,c25,c26,c27,c28,c29,c30,c31,c32,c33,c34,c35,c36,c37,c38,c39,c40,c41,c42,c43,c44,c45,c46,c47,c48,c49,c50,c51,c52,c53,c54,c55,c56,c57,c58,c59,c60,c61,c62,c63,d64,d65,d66,d67,v3,c69],[]⟩ w6):
  Code.wp Tryz.prog (((Tryz.f44.body).bind (aCb 13)).getD .skip) Q ⟨#[c0,c1,c2,c3,c4,c5,c6,v,c8,c9,(.int .i64 (j:Nat)),v2,c12,c13,c14,c15,c16,c17,c18,c19,c20,c21,c22,c23,c24,c25,c26,c27,c28,c29,c30,c31,c32,c33,c34,c35,c36,c37,c38,c39,c40,c41,c42,c43,c44,c45,c46,c47,c48,c49,c50,c51,c52,c53,c54,c55,c56,c57,c58,c59,c60,c61,c62,c63,c64,c65,c66,c67,c68,c69],[]⟩ W:=by
 conv=>arg 2;whnf
 have HQ:=yH hq;clear hq;rcases HO.out.2 with⟨rfl,hn0⟩|⟨b,cap,cur,rfl,hbw,hcur,hnc,hcm,hsz,htk⟩
 ·have hj0:j=0:=by omega
  subst hj0;have hr1:=fun ty=>aJx (w:=W) H2.out ty
  have hs:=fun w=>aMf (P:=Tryz.prog) w 23 76 Tryz.underlying23 (Tryz.sizeOf76 w)
  have hd:out.drop 0=[]:=List.eq_nil_of_length_eq_zero (by rw[List.drop_zero];exact hn0);have HE:=yH (show W.ownsRow base 76 7 v2 (n+(out.length - 0)) (xs++aAa (out.drop 0))∧∀B,B≤base→Below B W W from⟨by rw[hd,hn0];simpa [aAa]using H2.out,fun B _=>yZ⟩);clear hd;go_wp2_with (at_builtin;refine aCt rfl (.tmp 64) (.tmp 67) 23 rfl rfl rfl (hr1 _) ?_);exact HQ.out _ _ _ _ _ _ HE.out
 have hc:∀q,q<out.length*7→W.cell? ⟨b,q,none⟩=(aAa out)[q]? := fun q hq=>HO.out.cellAt q hq
 obtain⟨v3,u3,hr3,ho3,hg3⟩:=aQb H2.out hn b cap j out hj hnc hc (by omega) 23 hb;have c3:∀B,B≤base→Below B W u3:=fun B hB=>yZ.grown hg3 (Nat.le_trans hB hb) (fun k hk=>Nat.le_trans hB (aAe H2.out hk).1)
 have HE:=yH (And.intro ho3 c3);have hs:=aFc (P:=Tryz.prog) W 23 76 Tryz.underlying23 (Tryz.sizeOf76 _) b out.length cap j hj hnc (j:Int) rfl;unfold maxLen at hcm;clear hc ho3 hg3 c3 hcur htk hsz;go_wp2_with (at_builtin;refine aCt rfl (.tmp 64) (.tmp 67) 23 rfl rfl rfl hr3 ?_);exact HQ.out _ _ _ _ _ _ HE.out
def BestPost(w:World)(l:List Of)(s b:Int)(e:Ending)(w':World):Prop:=
 ∃v,e=.returned v∧w'.ownsRow w.heap.size 76 7 v (aBu l s b).length (aAa (aBu l s b))∧Below w.heap.size w w'
def BestAt(w:World)(l:List Of)(s b:Int)(v i:Value)(wr:World):Prop:=
 ∃k:Nat,k≤l.length∧i=.int .i64 k∧wr.ownsRow w.heap.size 76 7 v (aBu (l.take k) s b).length (aAa (aBu (l.take k) s b))∧Below w.heap.size w wr
def BestIn(W:World)(x:Of)(out:List Of)(i:Value)(wr:World):Prop:=
 ∃j:Nat,j≤out.length∧i=.int .i64 j∧Hid (∀y∈out.take j,aBl x y=true)∧Below W.heap.size W wr
theorem bbest_any{w:World}{base g:Nat}{l:List Of}{N:Int}{vl:Value}(h:RefB w base g l N vl)(s bu:Int)(hlen:l.length≤500):
  Calls Tryz.prog 44 #[.pointer (some ⟨g,0,none⟩),.int .u8 s,.int .u8 bu] w (BestPost w l s bu):=by
 have H:=yH h;obtain⟨ao,cap0,rfl,hc1,hc2,hc3,hc4⟩:=aAd h.row;have HC:=yH hc4;have hg:=h.blk.lt;unfold maxLen at hc2;clear hc3 hc4 h;go_enter Tryz.func44,Tryz.ntmps44;go_wp2_with fail
 go_loopw [7,8] (BestAt w l s bu) (fun _ i _=>l.length - (intOf i).toNat)
 case atStart=>exact⟨0,Nat.zero_le _,rfl,World.ownsRow_nil _ _ _ _,yZ⟩
 obtain⟨k,hk,rfl,hown,hb⟩:=hrel;have hlo:=bestO_len (l.take k) s bu;have hlk:(l.take k).length≤k:=List.length_take_le _ _;have dg:=(H.out.blk.below hb hg).cell 0;simp at dg;have hgr:=(H.out.blk.below hb hg).lt
 by_cases hkl:k<l.length
 ·obtain⟨b0,rfl,hb1,hb2,hcell,_⟩:=HC.out (by omega);obtain⟨e0,e1,e2,e3,e4,e5,e6⟩:=aC5 (w:=wr) (fun j hj=>by rw[hb.cell (p:=⟨b0,j,none⟩) hb2];exact hcell j hj) hkl;have hbr:b0<wr.heap.size:=yM hb2 hb.size;have NX:=yH (bestO_next l s bu k hkl);clear hcell;generalize l[k]=x at *;generalize aBu (l.take k) s bu=out at *;have hl2:out.length≤500:=by omega
  have A0:=(Below.refl wr.heap.size wr).alloc yL (.cells #[.int .u64 x.se,.int .u8 x.ow,.int .u8 x.sl,.int .u8 x.bu,.int .i64 x.lf,.int .i64 x.nu,.int .i64 x.de] 76);have BW:=yH (hb.trans (A0.mono hb.size));have KX:=yH (pAA wr #[.int .u64 x.se,.int .u8 x.ow,.int .u8 x.sl,.int .u8 x.bu,.int .i64 x.lf,.int .i64 x.nu,.int .i64 x.de] 76);have OW:=yH (hown.alloc (.cells #[.int .u64 x.se,.int .u8 x.ow,.int .u8 x.sl,.int .u8 x.bu,.int .i64 x.lf,.int .i64 x.nu,.int .i64 x.de] 76));clear hown hb A0
  by_cases hs:x.sl=s
  case neg=>
   have q1:(x.sl==s)=false:=by simpa using hs
   have q2:(x.sl != s)=true:=by simpa using hs
   have NX2:Hid (aBu (l.take (k+1)) s bu=out):=yH (by rw[NX.out];unfold aCk;rw[if_neg (fun h=>hs h.1)]);clear hs NX;go_wp2_with fail;go_roundw
   case rel=>exact⟨k+1,by omega,by go_num,by rw[NX2.out];exact OW.out,BW.out⟩
   case measure=>simp[intOf];omega
  by_cases hbu:x.bu=bu
  case neg=>
   have q1:(x.sl==s)=true:=by simpa using hs
   have q2:(x.sl != s)=false:=by simpa using hs
   have q3:(x.bu==bu)=false:=by simpa using hbu
   have q4:(x.bu != bu)=true:=by simpa using hbu
   have NX2:Hid (aBu (l.take (k+1)) s bu=out):=yH (by rw[NX.out];unfold aCk;rw[if_neg (fun h=>hbu h.2)]);clear hs hbu NX;go_wp2_with fail;go_roundw
   case rel=>exact⟨k+1,by omega,by go_num,by rw[NX2.out];exact OW.out,BW.out⟩
   case measure=>simp[intOf];omega
  have q1:(x.sl==s)=true:=by simpa using hs
  have q2:(x.sl != s)=false:=by simpa using hs
  have q3:(x.bu==bu)=true:=by simpa using hbu
  have q4:(x.bu != bu)=false:=by simpa using hbu
  replace NX:Hid (aBu (l.take (k+1)) s bu=insO out x):=yH (by rw[NX.out];unfold aCk;rw[if_pos ⟨hs,hbu⟩])
  clear hs hbu;generalize hX:wr.heap.size=X at KX;have HX:=yH hX;have OW2:=yH OW.out;obtain⟨ao,cap,hvo,hcl1,hcl2,_,hrow⟩:=aAd OW.out;subst hvo
  have HCW:Hid (∀j,j<out.length→∃b,ao=some ⟨b,0,none⟩∧b<(wr.alloc (.cells #[.int .u64 x.se,.int .u8 x.ow,.int .u8 x.sl,.int .u8 x.bu,.int .i64 x.lf,.int .i64 x.nu,.int .i64 x.de] 76)).heap.size∧(wr.alloc (.cells #[.int .u64 x.se,.int .u8 x.ow,.int .u8 x.sl,.int .u8 x.bu,.int .i64 x.lf,.int .i64 x.nu,.int .i64 x.de] 76)).cell? ⟨b,j*7+5,none⟩=(aAa out)[j*7+5]? ∧ (wr.alloc (.cells #[.int .u64 x.se,.int .u8 x.ow,.int .u8 x.sl,.int .u8 x.bu,.int .i64 x.lf,.int .i64 x.nu,.int .i64 x.de] 76)).cell? ⟨b,j*7+6,none⟩=(aAa out)[j*7+6]?):=yH (fun j hj=>by
   obtain⟨b,hb,_,hlt,hc,_⟩:=hrow (by omega);exact⟨b,hb,hlt,hc _ (by omega),hc _ (by omega)⟩)
  unfold maxLen at hcl2;clear hrow OW;go_wp2_with fail
  try rw[hX]
  generalize wr.alloc (.cells #[.int .u64 x.se,.int .u8 x.ow,.int .u8 x.sl,.int .u8 x.bu,.int .i64 x.lf,.int .i64 x.nu,.int .i64 x.de] 76)=W at *
  go_loopw [10] (BestIn W x out) (fun i _=>out.length - (intOf i).toNat)
  case atStart=>exact⟨0,Nat.zero_le _,rfl,yH (by simp),yZ⟩
  obtain⟨j,hj,rfl,HJ,hBI⟩:=hrel;have BI:=yH hBI;clear hBI
  by_cases hjl:j<out.length
  ·obtain⟨b,rfl,hbW,hc5,hc6⟩:=HCW.out j hjl;have HB:Hid (b<wr.heap.size):=yH (yM hbW BI.out.size);have HY5:Hid (wr.cell? ⟨b,((j:Nat):Int).toNat*7+5,none⟩=some (.int .i64 out[j].nu)):=yH (by rw[Int.toNat_natCast];exact((BI.out.cell (p:=⟨b,j*7+5,none⟩) hbW).trans hc5).trans (aAp out j 5 (by omega) hjl));have HY6:Hid (wr.cell? ⟨b,((j:Nat):Int).toNat*7+6,none⟩=some (.int .i64 out[j].de)):=yH (by rw[Int.toNat_natCast];exact((BI.out.cell (p:=⟨b,j*7+6,none⟩) hbW).trans hc6).trans (aAp out j 6 (by omega) hjl));have KX2:=yH (KX.out.below BI.out KX.out.lt);have CC:=yH (fun w'=>aP8 out[j].nu out[j].de x.nu x.de w');have TN:=yH (fun h=>aEl (q:=fun y=>aBl x y=true) hjl HJ.out h);have c0:decide (((j:Nat):Int)<(out.length:Int))=true:=by simp;omega
   clear hc5 hc6
   by_cases hc:cmpR out[j].nu out[j].de x.nu x.de≤0
   ·have hnw:=TN.out (show aBl x out[j]=true by unfold aBl;simpa using hc);have HN:=yH hnw;have c1:decide (cmpR out[j].nu out[j].de x.nu x.de≤0)=true:=by simpa using hc
    clear hnw TN hc;go_wp2_with fail;refine best_le (ao:=none) (by omega) (by omega) HB HY5 HY6 KX2 CC (by omega) c0 c1 ?_;intro w3 b3;have B3:=yT BI b3;clear b3 c0 c1 CC HY5 HY6 KX2;go_wp2_with fail;go_roundw
    case rel=>exact⟨j+1,by omega,by go_num,HN,B3.out⟩
    case measure=>simp[intOf];omega
   have hnw:aBl x out[j]=false:=by unfold aBl;simpa using hc
   have c1:decide (cmpR out[j].nu out[j].de x.nu x.de≤0)=false:=by simpa using hc
   have HIN:=yH (insO_at (x:=x) (l:=out) (j:=j) HJ.out (fun _=>hnw));clear TN hc hnw;go_wp2_with fail;refine best_gt (ao:=none) (by omega) (by omega) HB HY5 HY6 KX2 CC (by omega) c0 c1 ?_;clear c0 c1 CC HY5 HY6 KX2 HB;intro w3 b3;have B3:=yT BI b3;have KX3:=yH (KX.out.below B3.out KX.out.lt);have OW3:=yH (aAc OW2.out B3.out);have BT:=yH (BW.out.trans (B3.out.mono BW.out.size));clear b3 BI B3 HJ
   go_upto_region 11 with(fail)
   refine best_r11 OW3 (by omega) hl2 ?_;rintro v1 d55 d56 d57 d58 w4 ⟨ho4,b4⟩;have O4:=yH (show w4.ownsRow w3.heap.size 76 7 v1 (out.take j).length (aAa (out.take j)) by rw[List.length_take,Nat.min_eq_left (by omega)];exact ho4);have KX4:=yB KX3 b4;have OW4:=yH (aAc OW3.out b4);have BT4:=yT BT b4;have hz4:=b4.size;clear ho4 b4 KX3
   go_upto_region 12 with(fail)
   refine best_r12 O4 KX4 hz4 (by rw[List.length_take];omega) ?_;rintro v2 d60 d61 d62 w5 ⟨ho5,b5⟩;have O5:=yH (show w5.ownsRow w3.heap.size 76 7 v2 (j+1) (aAa (out.take j++[x])) by rw[List.length_append,List.length_take,Nat.min_eq_left (by omega)]at ho5;exact ho5);have hb5:=b5 w3.heap.size yL;have OW5:=yH (aAm OW4.out (⟨hb5.os,hb5.tape,hb5.output,hb5.size,fun k _ hs=>hb5.block k (Nat.lt_of_not_le hs)⟩:Keep (fun b=>w3.heap.size≤b) w4 w5) (fun b hb hs=>by have:=(aAe OW3.out hb).2.1;omega));have BT5:=yH (BT4.out.trans (b5 w.heap.size (by have:=BT.out.size;omega)));have hz5:=Nat.le_trans hz4 hb5.size;clear ho5 b5 hb5 KX4 O4 OW4 BT4
   go_upto_region 13 with(fail)
   refine best_r13 OW5 O5 (by omega) hl2 (by omega) hz5 ?_;rintro v3 d64 d65 d66 d67 w6 ⟨ho6,b6⟩;have hlen3:(insO out x).length=j+1+(out.length - j):=by rw[aOf];omega
   rw[←aAv,List.append_assoc,List.singleton_append,←HIN.out]at ho6;have O6:=yH (aBd ho6 BT.out.size);have B6:=yH (BT5.out.trans (b6 w.heap.size (by have:=BT.out.size;omega)));clear ho6 b6 OW5 O5 BT5;go_wp2_with fail;go_roundw
   case rel=>exact⟨k+1,by omega,by go_num,by rw[NX.out,hlen3];exact O6.out,B6.out⟩
   case measure=>simp[intOf];omega
  have c0:decide (((j:Nat):Int)<(out.length:Int))=false:=by simp;omega
  have HIN:=yH (insO_at (x:=x) (l:=out) (j:=j) HJ.out (fun h=>absurd h hjl));go_wp2_with fail;refine best_end (X:=X) (x:=x) (y:=x) (b:=0) (c:=0) (by omega) (by omega) c0 ?_;clear c0;intro w3 b3;have B3:=yT BI b3;have KX3:=yH (KX.out.below B3.out KX.out.lt);have OW3:=yH (aAc OW2.out B3.out);have BT:=yH (BW.out.trans (B3.out.mono BW.out.size));clear b3 BI B3 HJ
  go_upto_region 11 with(fail)
  refine best_r11 OW3 (by omega) hl2 ?_;rintro v1 d55 d56 d57 d58 w4 ⟨ho4,b4⟩;have O4:=yH (show w4.ownsRow w3.heap.size 76 7 v1 (out.take j).length (aAa (out.take j)) by rw[List.length_take,Nat.min_eq_left (by omega)];exact ho4);have KX4:=yB KX3 b4;have OW4:=yH (aAc OW3.out b4);have BT4:=yT BT b4;have hz4:=b4.size;clear ho4 b4 KX3
  go_upto_region 12 with(fail)
  refine best_r12 O4 KX4 hz4 (by rw[List.length_take];omega) ?_;rintro v2 d60 d61 d62 w5 ⟨ho5,b5⟩;have O5:=yH (show w5.ownsRow w3.heap.size 76 7 v2 (j+1) (aAa (out.take j++[x])) by rw[List.length_append,List.length_take,Nat.min_eq_left (by omega)]at ho5;exact ho5);have hb5:=b5 w3.heap.size yL;have OW5:=yH (aAm OW4.out (⟨hb5.os,hb5.tape,hb5.output,hb5.size,fun k _ hs=>hb5.block k (Nat.lt_of_not_le hs)⟩:Keep (fun b=>w3.heap.size≤b) w4 w5) (fun b hb hs=>by have:=(aAe OW3.out hb).2.1;omega));have BT5:=yH (BT4.out.trans (b5 w.heap.size (by have:=BT.out.size;omega)));have hz5:=Nat.le_trans hz4 hb5.size;clear ho5 b5 hb5 KX4 O4 OW4 BT4
  go_upto_region 13 with(fail)
  refine best_r13 OW5 O5 (by omega) hl2 (by omega) hz5 ?_;rintro v3 d64 d65 d66 d67 w6 ⟨ho6,b6⟩;have hlen3:(insO out x).length=j+1+(out.length - j):=by rw[aOf];omega
  rw[←aAv,List.append_assoc,List.singleton_append,←HIN.out]at ho6;have O6:=yH (aBd ho6 BT.out.size);have B6:=yH (BT5.out.trans (b6 w.heap.size (by have:=BT.out.size;omega)));clear ho6 b6 OW5 O5 BT5;go_wp2_with fail;go_roundw
  case rel=>exact⟨k+1,by omega,by go_num,by rw[NX.out,hlen3];exact O6.out,B6.out⟩
  case measure=>simp[intOf];omega
 have hke:l.take k=l:=List.take_of_length_le (by omega);rw[hke]at hown;have O0:=yH hown;have B0:=yH hb;clear hown hb;go_wp2_with fail;go_ret;exact⟨_,rfl,O0.out,B0.out⟩
theorem own_cell11{w:World}{base n cap:Nat}{ao:Option Addr}{os:List Of}(h:w.ownsRow base 76 7 (.slice ao n cap) n (aAa os)){k:Nat}(hk:k<os.length):
  ∃b,ao=some ⟨b,0,none⟩∧∀w',Below w.heap.size w w'→b<w'.heap.size∧w'.cell? ⟨b,k*7,none⟩=some (.int .u64 os[k].se):=by
 obtain⟨hl,h2⟩:=h;rcases h2 with⟨h2,h3⟩|⟨g,cap',cur,hv,hge,hg,hnc,hcm,hsz,htk⟩
 ·have:=hl;rw[h3]at this;have hz:(aAa os).length=os.length*7:=aAr os;omega
 cases hv
 have hB:Blk w g cur 76:=hg;refine⟨g,rfl,fun w' k'=>⟨(hB.below k' hB.lt).lt,?_⟩⟩;rw[(hB.below k' hB.lt).cell];have e:=aAp os k 0 (by omega) hk;rw[←htk,List.getElem?_take_of_lt (by have hz:(aAa os).length=os.length*7:=aAr os;omega)]at e;rw[Array.getElem?_toList]at e;simpa [Of.vals]using e
def FlbAt(W:World)(ps:List Int)(ls:List Ln)(l:List Of)(tk pt want most:Int)(os:List Of)(i:Value)(wr:World):Prop:=
 ∃k:Nat,k≤os.length∧i=.int .i64 k∧Below W.heap.size W wr∧Hid (aBh ps ls l tk pt want most os=aBh ps ls l tk pt want most (os.drop k))
theorem aQc{w:World}{bl bb rl rb base:Nat}{ps:List Int}{ls:List Ln}{l os:List Of}{N:Int}{vp vl vb v:Value}(hR:RefL w bl rl ps ls vp vl)(hI:LInv ps ls)(hB:RefB w bb rb l N vb)(hJ:BInv l N)
  (hv:w.ownsRow base 76 7 v os.length (aAa os))(tk pt want most:Int)(ht:In8 tk)(hto:In8 pt)(hw:In64 want)(hmo:In64 most):
  Calls Tryz.prog 43 #[.agg #[.pointer (some ⟨rl,0,none⟩),.pointer (some ⟨rb,0,none⟩)],v,.int .u8 tk,.int .u8 pt,.int .i64 want,.int .i64 most] w (yR w (.tuple #[.int .u64 ((aBh ps ls l tk pt want most os).getD (0,0)).1,.int .i64 ((aBh ps ls l tk pt want most os).getD (0,0)).2])):=by
 obtain⟨ao,cap,rfl,hc1,hc2,hc3,hc4⟩:=aAd hv;have bw:=(Below.refl w.heap.size w).alloc yL (.cells #[.pointer (some ⟨rl,0,none⟩),.pointer (some ⟨rb,0,none⟩)] 37);have KX:=yH (pAA w #[.pointer (some ⟨rl,0,none⟩),.pointer (some ⟨rb,0,none⟩)] 37);have HR:=yH (hR.below bw);have HB:=yH (hB.below bw);have HV:=yH (aAc hv bw);have B0:=yH bw;have CMa:=yH (fun s w' (k:Below (w.alloc (.cells #[.pointer (some ⟨rl,0,none⟩),.pointer (some ⟨rb,0,none⟩)] 37)).heap.size (w.alloc (.cells #[.pointer (some ⟨rl,0,none⟩),.pointer (some ⟨rb,0,none⟩)] 37)) w')=>rmayS_any ((hR.below bw).below k) hI ((hB.below bw).below k) hJ s tk pt want most ht hto hw hmo);obtain⟨R,hRR⟩:∃R,(aBh ps ls l tk pt want most os).getD (0,0)=R:=⟨_,rfl⟩;rw[hRR];have HRR:=yH hRR;unfold maxLen at hc2;have HCC:=yH hc4;clear bw hR hI hB hJ hv ht hto hw hmo hRR hc3 hc4;go_enter Tryz.func43,Tryz.ntmps43;go_wp2_with fail;generalize w.alloc (.cells #[.pointer (some ⟨rl,0,none⟩),.pointer (some ⟨rb,0,none⟩)] 37)=W at *
 go_loopw [14,15] (fun i _ wr=>FlbAt W ps ls l tk pt want most os i wr) (fun i _ _=>os.length - (intOf i).toNat)
 case atStart=>exact⟨0,by omega,rfl,yZ,yH rfl⟩
 obtain⟨k,hk,rfl,hb,HE⟩:=hrel
 by_cases hkl:k<os.length
 ·have hki:(k:Int)<(os.length:Int):=by omega
  have hk0:(0:Int)≤(k:Int):=by omega
  have q0:decide ((k:Int)<(os.length:Int))=true:=by simpa using hkl
  obtain⟨s,hs⟩:∃s,os[k].se=s:=⟨_,rfl⟩
  obtain⟨b,hbb,HC⟩:∃b,ao=some ⟨b,0,none⟩∧Hid (∀w',Below wr.heap.size wr w'→b<w'.heap.size∧w'.cell? ⟨b,k*7,none⟩=some (.int .u64 s)):=by
   obtain⟨b,h1,h2⟩:=own_cell11 HV.out hkl;refine⟨b,h1,yH fun w' h=>?_⟩;have:=h2 w' (andB hb h);rw[hs]at this;exact this
  subst hbb;have KX:=yB KX hb;have BB:=yH hb;have CM:=yH (fun w' (h:Below wr.heap.size wr w')=>CMa.out s w' (andB hb h));obtain⟨n,hn⟩:∃n,mayS ps ls l tk pt want most s=n:=⟨_,rfl⟩;rw[hn]at CM
  have HD:Hid (aBh ps ls l tk pt want most (os.drop k)=if 0<n then some (s,n)else aBh ps ls l tk pt want most (os.drop (k+1))):=yH (by
   rw[List.drop_eq_getElem_cons hkl];show(if 0<mayS ps ls l tk pt want most os[k].se then some (os[k].se,mayS ps ls l tk pt want most os[k].se)else _)=_;rw[hs,hn])
  have HK:=yH hkl;clear hb hs hn hkl;go_wp2_with fail
  refine aAy (by kernel_rfl) [(.agg #[.pointer (some ⟨rl,0,none⟩),.pointer (some ⟨rb,0,none⟩)]),(.slice (some ⟨b,0,none⟩) os.length cap),(.int .i64 k),(.pointer (some ⟨b,k*7,none⟩)),(.pointer (some ⟨b,k*7,none⟩)),(.int .u64 s),(.int .u8 tk),(.int .u8 pt),(.int .i64 want),(.int .i64 most),(.int .i64 n),(.int .i64 n)]
   (fun w'=>Below wr.heap.size wr w') (by kernel_rfl) yZ.drew ?_
  intro af haf;simp only[yG,List.append_eq,List.cons_append,List.nil_append,puts,Act.put,yA,yC,yF,yD,yE]at haf;subst haf;refine⟨?_,?_⟩
  ·simp only[yG,List.append_eq,List.cons_append,List.nil_append,aA8];refine⟨?_,?z1,?z2,?z8,?z9,?z10,?z3,?z4,?z5,?z6,?_,?z7,trivial⟩
   case z1|z2|z3|z4|z5|z6|z7=>
    intro w' hS;refine yO rfl ?_;have HS:=yH hS;clear hS;go_wp2_with fail;all_goals first|exact HS|exact⟨rfl,HS⟩|rfl|exact⟨by omega,HS.out⟩
   case z8|z9|z10=>
    intro w' hS;refine yO rfl ?_;obtain⟨hl0,c0⟩:=HC.out w' hS;have HS:=yH hS;clear hS;go_wp2_with fail;all_goals first|exact HS|exact⟨rfl,HS⟩|rfl|exact⟨by omega,HS.out⟩
   ·intro w' hS;refine yO rfl ?_;have d0_0:=(KX.out.below hS KX.out.lt).cell 0;have d0_1:=(KX.out.below hS KX.out.lt).cell 1;simp at d0_0 d0_1;have HS:=yH hS;clear hS;go_wp2_with fail;all_goals first|exact HS|exact⟨rfl,HS⟩|rfl|exact⟨by omega,HS.out⟩
   intro w' hS;refine yO rfl ?_;have HS:=yH hS;clear hS;go_wp2_with fail;refine(CM.out w' HS.out).mono ?_;rintro e w'' ⟨rfl,hb2⟩;exact⟨rfl,andB HS.out hb2⟩
  intro w' hS;have BB2:=yT BB hS;obtain⟨hl0,c0⟩:=HC.out w' hS;clear hS
  by_cases hp:0<n
  ·have q1:decide (0<n)=true:=by simpa using hp
   have HP:=yH hp;clear hp;go_wp2_with fail;go_ret2;refine⟨?_,B0.out.trans (BB2.out.mono B0.out.size)⟩;rw[←HRR.out,HE.out,HD.out,if_pos HP.out];rfl
  have q1:decide (0<n)=false:=by simpa using hp
  have HP:=yH hp;clear hp;go_wp2_with fail;exact⟨⟨k+1,by have:=HK.out;omega,by go_num,BB2.out,yH (by rw[HE.out,HD.out];exact if_neg (by have:=HP.out;omega))⟩,by simp[intOf];have:=HK.out;omega⟩
 have hkn:k=os.length:=by omega
 subst hkn;have q0:decide (((os.length:Nat):Int)<(os.length:Int))=false:=by simp
 have BB:=yH hb;clear hb;go_wp2_with fail;go_ret2;refine⟨?_,B0.out.trans (BB.out.mono B0.out.size)⟩;rw[←HRR.out,HE.out,List.drop_length];rfl
theorem aC6{P:Program}(w:World){ops:Array Oper}{rest:List Oper}{o:Oper}{a:Act}{Q:Exit→Act→World→Prop}(hgd:o.guard=none)(s x:Operand)(t e:TypeId)
  (ho:o.op=.call { callee:=.builtin .append,args:=#[s,x],argTypes:=#[t,t] }){z:Value}{sz by':Nat}(ht:P.underlying t=some (.slice e))(hinf:(P.info? e).map (fun i=>(i.zero,i.size,i.bytes))=some (some z,sz,by'))(hzs:z.cells.size=sz)(h0:0<sz)(hby:by'≤1000)
  (base:Nat)(v:Value)(n:Nat)(xs:List Value)(hs:a.eval s=v)(hown:w.ownsRow base e sz v n xs)(g c:Nat)(vs:List Value)(hvs:vs.length=sz)(hx:a.eval x=.slice (some ⟨g,0,none⟩) 1 c)(hy:Blk w g vs.toArray e)(h1:∀u∈vs,u.oneCell'=true)(hlen:n≤100000)(hbase:base≤w.heap.size)
  (h:∀v' w',w'.ownsRow base e sz v' (n+1) (xs++vs)→w.grownBy w' v.ownBlock→wpList P ops Q rest (a.put o.dst v') w'):wpList P ops Q (o::rest) a w:=by
 obtain⟨i0,hi,hz0,hz1,hz2⟩:=info_parts hinf;refine wpList_append_own w hgd s x t ho base e i0 z sz by' ht hi hz0 hz1 hz2 hzs h0 v n xs hs hown ⟨g,0,none⟩ 1 c vs hx (by rw[hvs];omega) ?_ h1 (by unfold maxLen;omega) ?_ hbase ?_
 ·intro j u hj;rw[Go.WideShapes.add_plain,Nat.zero_add,hy.cell j];simpa using hj
 ·refine Nat.le_trans (Nat.mul_le_mul_left _ hby) ?_;omega
 intro v' w' h2 h3 _;exact h v' w' h2 h3
theorem below_ag{B:Nat}{w w1 w2:World}{o:Obj}{row:Option Nat}(h:Below B w w1)(hB:B≤w1.heap.size)(hg:(w1.alloc o).grownBy w2 row)(hr:∀k,row=some k→B≤k):Below B w w2:=
 (h.alloc hB o).grown hg (by simp;omega) hr
def signed(neg:Bool)(x:Nat):Int:=if neg then -(x:Int)else x
theorem signed_abs(a:Int):signed (decide (a<0)) a.natAbs=a:=by
 unfold signed;by_cases h:a<0 <;> simp[h] <;> omega
theorem signed_tog(na nb:Bool)(x y:Nat):signed (aLg na nb x y) (aGt na nb x y)=signed na x+signed nb y:=by
 unfold signed aLg aGt
 by_cases h:x<y <;> cases na <;> cases nb <;> simp[h] <;> omega
theorem togSize_le(na nb:Bool)(x y:Nat):aGt na nb x y≤x+y:=by
 unfold aGt;split;omega;split <;> omega
theorem abs64{a:Int}(h:In64 a):a.natAbs≤9223372036854775808:=by unfold In64 at h;omega
theorem pair192{x y:Nat}(hx:x≤9223372036854775808)(hy:y≤9223372036854775808):x<2 ^ 192∧y<2 ^ 192∧x+y<2 ^ 192∧x*y<2 ^ 192:=by
 have h:=Nat.mul_le_mul hx hy;refine⟨Nat.lt_of_le_of_lt hx (by decide),Nat.lt_of_le_of_lt hy (by decide),Nat.lt_of_le_of_lt (Nat.add_le_add hx hy) (by decide),Nat.lt_of_le_of_lt h (by decide)⟩
theorem ans_pair(x:Int):ans x=.tuple #[.int .i64 (okN x),.int .i64 (erN x)]:=rfl
def Lst(k:IntKind)(w:World)(a:Option Addr)(cap:Nat)(zs:List Int):Prop:=
 (zs=[]∧(a=none→cap=0))∨∃b off,a=some ⟨b,off,none⟩∧zs≠[]∧b<w.heap.size∧∀i (h:i<zs.length),w.cell? ⟨b,off+i,none⟩=some (.int k zs[i])
theorem Lst.at{k:IntKind}{w:World}{a:Option Addr}{cap:Nat}{zs:List Int}(h:Lst k w a cap zs){i:Nat}(hi:i<zs.length):
  ∃b off,a=some ⟨b,off,none⟩∧b<w.heap.size∧∀i (h:i<zs.length),w.cell? ⟨b,off+i,none⟩=some (.int k zs[i]):=by
 rcases h with⟨rfl,_⟩|⟨b,off,rfl,hne,hlt,hcell⟩
 ·simp at hi
 exact⟨b,off,rfl,hlt,hcell⟩
def RSumAt(zs:List Int)(w:World)(i:Value)(wr:World):Prop:=
 ∃(k:Nat) (neg:Bool) (s:Nat),k≤zs.length∧i=.int .i64 k∧Blk wr w.heap.size (aAf neg s.testBit) 161∧signed neg s=(zs.take k).sum∧s≤k*9223372036854775808∧Below w.heap.size w wr
theorem small192{s k:Nat}(hk:k≤140737488355328)(hs:s≤k*9223372036854775808):s<2 ^ 192:=
 Nat.lt_of_le_of_lt hs (Nat.lt_of_le_of_lt (Nat.mul_le_mul_right _ hk) (by decide))
theorem rsum_any(a:Option Addr)(cap:Nat)(zs:List Int)(w:World)(hz:∀z∈zs,In64 z)(hl:zs.length≤140737488355328)(ha:Lst .i64 w a cap zs):
  Calls Tryz.prog 47 #[.slice a zs.length cap] w (yR w (ans zs.sum)):=by
 have hzw:=aD6;have HZ:=yH hz;have HA:=yH ha;have HLL:=yH hl;clear hz ha;go_enter Tryz.func47,Tryz.ntmps47;go_wp2
 go_loopw [5] (RSumAt zs w) (fun i _=>zs.length - (intOf i).toNat)
 case atStart=>exact⟨0,false,0,Nat.zero_le _,rfl,by rw[show(Nat.testBit 0)=fun _=>false from funext Nat.zero_testBit];exact pAA _ _ _,by simp[signed],by omega,yZ.alloc yL _⟩
 obtain⟨k,neg,s,hk,rfl,hblk,hsg,hsz,hb⟩:=hrel;have hg:=hblk.lt
 by_cases hkl:k<zs.length
 ·obtain⟨b,off,ea,hlt,hcl⟩:=HA.out.at hkl;subst ea;have hcell:wr.cell? ⟨b,off+k,none⟩=some (.int .i64 zs[k]):=by rw[hb.cell (p:=⟨b,off+k,none⟩) hlt];exact hcl k hkl
  have hz:=HZ.out zs[k] (by simp);have hst:=yH (sum_take zs k hkl);clear hcl;generalize zs[k]=z at *;have h64:=abs64 hz;have hs192:=small192 (Nat.le_trans hk hl) hsz;have c1:=yH (fun w=>aIn z w hz);have c2:=yH (fun w=>aPs neg (decide (z<0)) s z.natAbs w hs192 (pair192 h64 h64).1);have e:=signed_tog neg (decide (z<0)) s z.natAbs;rw[signed_abs,hsg,←hst.out]at e;have hle:=togSize_le neg (decide (z<0)) s z.natAbs;have hle2:aGt neg (decide (z<0)) s z.natAbs≤(k+1)*9223372036854775808:=by omega
  have E:=yH e;have HLE:=yH hle2;have HK:=yH hkl;clear e hle hle2 h64 hs192 hsz hsg hz;generalize aLg neg (decide (z<0)) s z.natAbs=ns at *;generalize aGt neg (decide (z<0)) s z.natAbs=xs at *;generalize decide (z<0)=nz at *;generalize z.natAbs=xz at *;unfold aBp at *;go_wp2_with fail
  refine aD1 (by kernel_rfl) 7 [.agg (aAf neg s.testBit),.slice (some ⟨b,off,none⟩) zs.length cap,.int .i64 k,.pointer (some ⟨b,off+k,none⟩),.int .i64 z,.agg (aAf nz xz.testBit),.agg (aAf ns xs.testBit)]
   (fun w'=>Below wr.heap.size wr w') (by kernel_rfl) rfl (by kernel_rfl) yZ.drew ?_
  intro af haf;simp only[puts,Act.put,yA,yC,yF,yD,yE]at haf;subst haf;have hlt2:b<wr.heap.size:=yM hlt hb.size;refine⟨?_,?_⟩
  ·simp only[List.take_succ_cons,List.take_zero,aA8];refine⟨?_,?_,?_,?_,?_,?_,?_,trivial⟩
   all_goals
    intro w' hS;with_reducible refine yO rfl ?_
   ·exact wp_load_row 161 (.tmp 4) rfl w.heap.size rfl 161 (aAf neg s.testBit) (0,0) _ (hblk.below hS hg).out Tryz.underlying161 rfl (aA3 _ _) ⟨rfl,hS⟩
   ·go_wp2_with fail;all_goals first|rfl|exact⟨rfl,hS⟩
   ·go_wp2_with fail;all_goals first|rfl|exact⟨rfl,hS⟩
   ·go_wp2_with fail;all_goals first|rfl|exact⟨rfl,hS⟩
   ·have hc2:w'.cell? ⟨b,off+k,none⟩=some (.int .i64 z):=by rw[hS.cell (p:=⟨b,off+k,none⟩) hlt2];exact hcell
    go_wp2_with fail;all_goals first|rfl|exact⟨rfl,hS⟩
   ·go_wp2_with fail;refine(c1.out w').mono ?_;rintro e w'' ⟨rfl,hb2⟩;exact⟨rfl,andB hS hb2⟩
   go_wp2_with fail;refine(c2.out w').mono ?_;rintro e w'' ⟨rfl,hb2⟩;exact⟨rfl,andB hS hb2⟩
  simp only[yC,yA];intro w' hS;with_reducible refine yO rfl ?_
  have q:=hblk.below hS hg;refine wp_store_row 161 (.tmp 4) (.tmp 18) rfl w.heap.size (aAf ns xs.testBit) rfl rfl 161 _ q.out (aA3 _ _) (by simp only[aBi]) (aDc _ _) ⟨rfl,?_⟩;have q2:=yH (q.row (cs:=aAf ns xs.testBit));have qb:=below_setRow (hb.trans (hS.mono hb.size)) yL (aAf ns xs.testBit);generalize w'.setRow w.heap.size (aAf ns xs.testBit)=W2 at *;go_wp2_with fail;go_roundw
  case rel=>exact⟨k+1,ns,xs,by have:=HK.out;omega,by go_num,q2.out,E.out,HLE.out,qb⟩
  case measure=>have:=HK.out;simp[intOf];omega
 have hkk:zs.take k=zs:=List.take_of_length_le (by omega);rw[hkk]at hsg;have hs192:=small192 (Nat.le_trans hk hl) hsz;have c4:=yH (fun w=>aN3 neg s w hs192);unfold signed at hsg;rw[hsg,ans_pair]at c4;unfold aBp at *;clear hsg hs192 hsz hkk;go_wp2_with ((with_reducible refine wpList_load_row ?_ 161 (.tmp 4) ?_ w.heap.size ?_ 161 (aAf neg s.testBit) (0,0) _ hblk.out Tryz.underlying161 ?_ (aA3 _ _) ?_);exact rfl;exact rfl;exact rfl;exact rfl);refine(c4.out _).mono ?_;rintro e w4 ⟨rfl,b4⟩;go_wp2_with fail;go_ret2;exact⟨rfl,hb.trans (b4.mono (Nat.le_of_lt hg))⟩
def Fl.vals(tk pt:Int)(f:Fl):List Value:=[.int .u64 f.se,.int .u8 tk,.int .u8 pt,.int .i64 f.got,.int .i64 f.gi]
def aCp(tk pt:Int)(fs:List Fl):List Value:=fs.flatMap (Fl.vals tk pt)
theorem aLy(tk pt:Int)(fs:List Fl):(aCp tk pt fs).length=fs.length*5:=aJ5 _ 5 (fun _=>rfl) fs
theorem aLz(tk pt:Int)(fs:List Fl)(i j:Nat)(hj:j<5)(h:i<fs.length):(aCp tk pt fs)[i*5+j]? = (fs[i].vals tk pt)[j]? := by
 unfold aCp;rw[aH6 _ 5 (fun _=>rfl) fs i j hj,List.getElem?_eq_getElem h];rfl
theorem aJy(tk pt:Int)(fs:List Fl)(f:Fl):aCp tk pt (fs++[f])=aCp tk pt fs++f.vals tk pt:=by
 unfold aCp;rw[List.flatMap_append];simp
theorem aL0{w:World}{base n cap:Nat}{ao:Option Addr}{e:TypeId}{tk pt:Int}{fs:List Fl}(h:w.ownsRow base e 5 (.slice ao n cap) n (aCp tk pt fs)){k:Nat}(hk:k<fs.length):
  ∃b,ao=some ⟨b,0,none⟩∧∀w',Below w.heap.size w w'→b<w'.heap.size∧∀j,j<5→w'.cell? ⟨b,k*5+j,none⟩=(fs[k].vals tk pt)[j]? := by
 obtain⟨hl,h2⟩:=h;have hz:=aLy tk pt fs;rcases h2 with⟨h2,h3⟩|⟨g,cap',cur,hv,hge,hg,hnc,hcm,hsz,htk⟩
 ·have:=hl;rw[h3]at this;omega
 cases hv
 have hB:Blk w g cur e:=hg;refine⟨g,rfl,fun w' k'=>⟨(hB.below k' hB.lt).lt,fun j hj=>?_⟩⟩;rw[(hB.below k' hB.lt).cell];have e:=aLz tk pt fs k j hj hk;rw[←htk,List.getElem?_take_of_lt (by omega)]at e;rw[Array.getElem?_toList]at e;exact e
theorem info_i64:(Tryz.prog.info? 2).map (fun i=>(i.zero,i.size,i.bytes))=some (some (.int .i64 0),1,8):=by kernel_rfl
theorem own_lst{w:World}{base n cap:Nat}{ao:Option Addr}{e:TypeId}{zs:List Int}(h:w.ownsRow base e 1 (.slice ao n cap) n (zs.map (.int .i64)))(hn:n=zs.length):Lst .i64 w ao cap zs:=by
 obtain⟨hl,h2⟩:=h;rcases h2 with⟨h2,h3⟩|⟨g,cap',cur,hv,hge,hg,hnc,hcm,hsz,htk⟩
 ·cases h2
  refine .inl ⟨List.eq_nil_of_length_eq_zero (by omega),fun _=>rfl⟩
 cases hv
 have hB:Blk w g cur e:=hg
 by_cases hz:zs=[]
 ·exact .inl ⟨hz,fun h=>by cases h⟩
 refine .inr ⟨g,0,rfl,hz,hB.lt,fun i hi=>?_⟩;rw[Nat.zero_add,hB.cell];have e:(zs.map (Value.int .i64))[i]? = some (.int .i64 zs[i]):=by rw[List.getElem?_map,List.getElem?_eq_getElem hi];rfl
 rw[←htk,List.getElem?_take_of_lt (by omega),Array.getElem?_toList]at e;exact e
def GvnAt(W:World)(fs:List Fl)(v i:Value)(wr:World):Prop:=
 ∃k:Nat,k≤fs.length∧i=.int .i64 k∧wr.ownsRow W.heap.size 2 1 v k (((fs.take k).map Fl.gi).map (.int .i64))∧Below W.heap.size W wr
theorem aJi{w:World}{base:Nat}{tk pt:Int}{fs:List Fl}{v:Value}(hv:w.ownsRow base 102 5 v fs.length (aCp tk pt fs))(h64:∀f∈fs,In64 f.gi)(hlen:fs.length≤1000):
  Calls Tryz.prog 15 #[v] w (yR w (.int .i64 (okN (fs.map Fl.gi).sum))):=by
 obtain⟨ao,cap,rfl,hc1,hc2,hc3,hc4⟩:=aAd hv;have HV:=yH hv;have H64:=yH h64;unfold maxLen at hc2;clear hc3 hc4 hv h64;go_enter Tryz.func15,Tryz.ntmps15;go_wp2_with fail
 go_loopw [3,4] (fun v i wr=>GvnAt w fs v i wr) (fun _ i _=>fs.length - (intOf i).toNat)
 case atStart=>exact⟨0,by omega,rfl,World.ownsRow_nil w _ _ _,yZ⟩
 obtain⟨k,hk,rfl,ho,hb⟩:=hrel
 by_cases hkl:k<fs.length
 ·have hki:(k:Int)<(fs.length:Int):=by omega
  have hk0:(0:Int)≤(k:Int):=by omega
  have q0:decide ((k:Int)<(fs.length:Int))=true:=by simpa using hkl
  obtain⟨b,hbb,hc⟩:=aL0 HV.out hkl;subst hbb;obtain⟨hbl,hcj⟩:=hc wr hb;have c4:=hcj 4 (by omega);obtain⟨x,hx⟩:∃x,fs[k].gi=x:=⟨_,rfl⟩
  have HT:Hid (((fs.take (k+1)).map Fl.gi).map (Value.int .i64)=((fs.take k).map Fl.gi).map (.int .i64)++[.int .i64 x]):=yH (by
   rw[List.take_succ_eq_append_getElem hkl,List.map_append,List.map_append,←hx];rfl)
  simp only[Fl.vals,List.getElem?_cons_zero,List.getElem?_cons_succ]at c4;rw[hx]at c4;have OO:=yH ho;have BB:=yH hb;have HK:=yH hkl;clear ho hb hc hcj hx hkl;go_wp2_with (at_builtin;refine aC6 _ rfl (.tmp 13) (.tmp 19) 105 2 rfl Tryz.underlying105 info_i64 rfl (by decide) (by decide) w.heap.size _ k _ rfl (OO.out.alloc _) wr.heap.size 1 [.int .i64 x] rfl rfl (pAA _ _ _) (by simp[Value.oneCell']) (by omega) (by have:=BB.out.size;simp;omega) ?_);intro v2 w2 ho2 hg2;have HO2:=yH (show w2.ownsRow w.heap.size 2 1 v2 (k+1) (((fs.take (k+1)).map Fl.gi).map (.int .i64))from by rw[HT.out];simpa [List.map_take]using ho2);have BB2:=yH (below_ag BB.out BB.out.size hg2 (fun b hb=>(aAe OO.out hb).1));clear ho2 hg2;go_wp2_with fail;exact⟨⟨k+1,by have:=HK.out;omega,by go_num,HO2.out,BB2.out⟩,by simp[intOf];have:=HK.out;omega⟩
 have hkn:k=fs.length:=by omega
 subst hkn;have q0:decide (((fs.length:Nat):Int)<(fs.length:Int))=false:=by simp
 rw[List.take_length]at ho;obtain⟨a2,cap2,rfl,d1,d2,_,_⟩:=aAd ho;have CS:=yH (rsum_any a2 cap2 (fs.map Fl.gi) wr (by intro z hz;obtain⟨f,hf,rfl⟩:=List.mem_map.1 hz;exact H64.out f hf) (by simp;omega) (own_lst ho (by simp)));rw[List.length_map]at CS;unfold ans at CS;have BB:=yH hb;clear hb ho;go_wp2_with fail;refine CS.out.mono ?_;rintro e w2 ⟨rfl,b2⟩;have B2:=yT BB b2;clear b2;go_wp2_with fail;go_ret;exact⟨rfl,B2.out⟩
end Go.Proofs.YtojbmnbphdcjfaaGreat
