/- Pieces of one proof. -/
import Derived.Test.YtaeocliklpcgmaaGreatP22
set_option linter.all false
set_option maxHeartbeats 64000000
set_option maxRecDepth 100000
namespace Go.Proofs.YtaeocliklpcgmaaGreat
open Go.RowKit
theorem aOi(an ad bn bd:Nat)(w:World)(h1:mayB an ad=true)(h2:mayB bn bd=true):
  Calls Tryz.prog 111 #[.agg #[.int .i64 an,.int .i64 ad],.agg #[.int .i64 bn,.int .i64 bd]] w fun e w'=>e=.returned (.int .i64 (cmpI (an*bd:Nat) (bn*ad:Nat)))∧Below w.heap.size w w':=by
 have hz:=aG3;have hfl:=aHe;obtain⟨p1,p2,p3,p4,_⟩:=aC4 h1;obtain⟨q1,q2,q3,q4,_⟩:=aC4 h2;have c1:=yH (fun w=>aD7 an ad w);have c2:=yH (fun w=>aD7 bn bd w);rw[h1]at c1;rw[h2]at c2;have oA:=yH (fun w=>aJp (an:Int) w ⟨by omega,by omega⟩);have oB:=yH (fun w=>aJp (bn:Int) w ⟨by omega,by omega⟩);have oC:=yH (fun w=>aJp (ad:Int) w ⟨by omega,by omega⟩);have oD:=yH (fun w=>aJp (bd:Int) w ⟨by omega,by omega⟩);rw[decide_eq_false (by omega),Int.natAbs_natCast]at oA oB oC oD;have tX:=yH (fun w=>aLm false false an bd w (by omega));have tY:=yH (fun w=>aLm false false bn ad w (by omega));have hX:an*bd<2 ^ 192:=Nat.lt_of_le_of_lt (Nat.mul_le_mul (show an≤1099511627776 by omega) (show bd≤1099511627776 by omega)) (by decide);have hY:bn*ad<2 ^ 192:=Nat.lt_of_le_of_lt (Nat.mul_le_mul (show bn≤1099511627776 by omega) (show ad≤1099511627776 by omega)) (by decide);have gXY:=yH (fun w=>aGj (an*bd) (bn*ad) w hX hY);have gYX:=yH (fun w=>aGj (bn*ad) (an*bd) w hY hX);have k1:Blk ((w.alloc (.cells #[.int .i64 an,.int .i64 ad] 46)).alloc (.cells #[.int .i64 bn,.int .i64 bd] 46)) w.heap.size #[.int .i64 an,.int .i64 ad] 46:=(pAA _ _ _).alloc _;have k2:Blk ((w.alloc (.cells #[.int .i64 an,.int .i64 ad] 46)).alloc (.cells #[.int .i64 bn,.int .i64 bd] 46)) (w.heap.size+1) #[.int .i64 bn,.int .i64 bd] 46:=pAC _ _ _ (by simp);have b0:Below w.heap.size w ((w.alloc (.cells #[.int .i64 an,.int .i64 ad] 46)).alloc (.cells #[.int .i64 bn,.int .i64 bd] 46)):=(yZ.alloc yL _).alloc (by simp) _;have K1:=yH k1;have K2:=yH k2;have B0:=yH b0;clear k1 k2 b0 h1 h2 p1 p2 p3 p4 q1 q2 q3 q4 hX hY;generalize an*bd=x at *;generalize bn*ad=y at *;rw[show cmpI (x:Int) (y:Int)=(if decide (y<x)=true then 1 else if decide (x<y)=true then -1 else 0) by unfold cmpI;simp only[decide_eq_true_eq];(repeat' split) <;> omega];generalize decide (y<x)=p at *;generalize decide (x<y)=q at *;unfold aD6 at *;unfold aE3 at *;go_enter Tryz.func111,Tryz.ntmps111;go_wp2_with fail;refine(c1.out _).mono ?_;rintro e w1 ⟨rfl,b1⟩;have B1:=yH (B0.out.trans (b1.mono (by simp;omega)));have R1:=yB K1 b1;have R2:=yB K2 b1;have e0:=R2.out.cell 0;have e1:=R2.out.cell 1;simp at e0 e1;clear b1;go_wp2_with fail;refine(c2.out _).mono ?_;rintro e w2 ⟨rfl,b2⟩;have B2:=yT B1 b2;have S1:=yB R1 b2;have S2:=yB R2 b2;clear b2 e0 e1;go_wp2_with fail
 refine aA0 (by kernel_rfl) (fun g=>[.pointer (some ⟨w.heap.size,0,none⟩),.int .i64 an,.agg (aAr false an.testBit),.pointer (some ⟨w.heap.size+1,1,none⟩),.int .i64 bd,.agg (aAr false bd.testBit),.agg (aAr false x.testBit),.agg (arr x.testBit),.pointer (some ⟨g,0,none⟩)])
  (Laid w2 8 9 (arr fun _=>false) (arr x.testBit) 207) (by kernel_rfl) 0 ⟨yZ.drew,by simp,by simp⟩ ?_
 intro AF hAF;simp only[puts,Act.put,yA,yC,yF,yD,yE]at hAF;have hAF2:_=AF:=funext hAF;subst hAF2;clear hAF;refine⟨?_,?_⟩
 ·simp only[aEb];refine⟨?_,?_,?_,?_,?_,?_,?_,?_,?_,?_,trivial⟩
  ·intro g D w' hD _ _ hI;refine⟨g,fun _ _ _=>rfl,?_⟩;with_reducible refine yO rfl ?_
   have hI':=yH (hI.step yZ (k:=0) (by decide) (by decide));clear hI;go_wp2_with fail;all_goals first|exact hI'|exact⟨rfl,hI'⟩|rfl
  ·intro g D w' hD _ _ hI;refine⟨g,fun _ _ _=>rfl,?_⟩;with_reducible refine yO rfl ?_
   have hI':=yH (hI.step yZ (k:=1) (by decide) (by decide));have d0:=(S1.out.below hI.1 S1.out.lt).cell 0;simp at d0;clear hI;go_wp2_with fail;all_goals first|exact hI'|exact⟨rfl,hI'⟩|rfl
  ·intro g D w' hD _ _ hI;refine⟨g,fun _ _ _=>rfl,?_⟩;with_reducible refine yO rfl ?_
   have HI:=yH hI;clear hI;go_wp2_with fail;refine(oA.out w').mono ?_;rintro e w'' ⟨rfl,hb2⟩;exact⟨rfl,HI.out.step hb2 (by decide) (by decide)⟩
  ·intro g D w' hD _ _ hI;refine⟨g,fun _ _ _=>rfl,?_⟩;with_reducible refine yO rfl ?_
   have hI':=yH (hI.step yZ (k:=3) (by decide) (by decide));clear hI;go_wp2_with fail;all_goals first|exact hI'|exact⟨rfl,hI'⟩|rfl
  ·intro g D w' hD _ _ hI;refine⟨g,fun _ _ _=>rfl,?_⟩;with_reducible refine yO rfl ?_
   have hI':=yH (hI.step yZ (k:=4) (by decide) (by decide));have d0:=(S2.out.below hI.1 S2.out.lt).cell 1;simp at d0;clear hI;go_wp2_with fail;all_goals first|exact hI'|exact⟨rfl,hI'⟩|rfl
  ·intro g D w' hD _ _ hI;refine⟨g,fun _ _ _=>rfl,?_⟩;with_reducible refine yO rfl ?_
   have HI:=yH hI;clear hI;go_wp2_with fail;refine(oD.out w').mono ?_;rintro e w'' ⟨rfl,hb2⟩;exact⟨rfl,HI.out.step hb2 (by decide) (by decide)⟩
  ·intro g D w' hD _ _ hI;refine⟨g,fun _ _ _=>rfl,?_⟩;with_reducible refine yO rfl ?_
   have HI:=yH hI;clear hI;go_wp2_with fail;refine(tX.out w').mono ?_;rintro e w'' ⟨rfl,hb2⟩;exact⟨rfl,HI.out.step hb2 (by decide) (by decide)⟩
  ·intro g D w' hD _ _ hI;refine⟨g,fun _ _ _=>rfl,?_⟩;with_reducible refine yO rfl ?_
   have hI':=yH (hI.step yZ (k:=7) (by decide) (by decide));clear hI;go_wp2_with fail;all_goals first|exact hI'|exact⟨rfl,hI'⟩|rfl
  ·intro g D w' hD _ hC hI
   have h9:D 9=false:=by
    by_cases h:D 9=true
    ·have:=hC 9 _ rfl h ⟨8,.data⟩ (by simp) rfl;rw[hD]at this
     cases this
    simpa using h
   refine⟨w'.heap.size,?_,?_⟩
   ·intro j hj hDj
    match j,hj,hDj with
    | 0,_,_=>rfl
    | 1,_,_=>rfl
    | 2,_,_=>rfl
    | 3,_,_=>rfl
    | 4,_,_=>rfl
    | 5,_,_=>rfl
    | 6,_,_=>rfl
    | 7,_,_=>rfl
    | 8,_,h=>rw[hD]at h;cases h
    | j+9,_,_=>rfl
   with_reducible refine yO rfl ?_
   have hI':=yH (hI.lay h9 (by decide));clear hI h9;go_wp2_with fail;all_goals first|exact hI'|exact⟨rfl,hI'⟩|rfl
  intro g D w' hD hW _ hI;have h8:D 8=true:=hW ⟨8,.data⟩ (by simp) rfl;obtain⟨hg,hk⟩:=hI.2.1 h8 hD;refine⟨g,fun _ _ _=>rfl,?_⟩;with_reducible refine yO rfl ?_
  refine wp_store_row 207 (.tmp 5) (.tmp 22) rfl g (arr x.testBit) rfl rfl 207 _ hk.out (aAo _) (by rw[aA6,aA6]) (aDo _) ⟨rfl,?_⟩;exact hI.fill (below_setRow hI.1 hg _) hg hk.row
 intro g3 D w3' hall hI;obtain⟨hb3,_,h9⟩:=hI;obtain⟨hg3,hk3⟩:=h9 (hall 9 (by decide));have B3:=yT B2 hb3;have T1:=yB S1 hb3;have T2:=yB S2 hb3;have KX:=yH hk3;clear hb3 h9 hg3 hk3 hall;go_wp2_with fail
 refine aA0 (by kernel_rfl) (fun g=>[.pointer (some ⟨w.heap.size+1,0,none⟩),.int .i64 bn,.agg (aAr false bn.testBit),.pointer (some ⟨w.heap.size,1,none⟩),.int .i64 ad,.agg (aAr false ad.testBit),.agg (aAr false y.testBit),.agg (arr y.testBit),.pointer (some ⟨g,0,none⟩)])
  (Laid w3' 8 9 (arr fun _=>false) (arr y.testBit) 207) (by kernel_rfl) 0 ⟨yZ.drew,by simp,by simp⟩ ?_
 intro AF hAF;simp only[puts,Act.put,yA,yC,yF,yD,yE]at hAF;have hAF2:_=AF:=funext hAF;subst hAF2;clear hAF;refine⟨?_,?_⟩
 ·simp only[aEb];refine⟨?_,?_,?_,?_,?_,?_,?_,?_,?_,?_,trivial⟩
  ·intro g D w' hD _ _ hI;refine⟨g,fun _ _ _=>rfl,?_⟩;with_reducible refine yO rfl ?_
   have hI':=yH (hI.step yZ (k:=0) (by decide) (by decide));clear hI;go_wp2_with fail;all_goals first|exact hI'|exact⟨rfl,hI'⟩|rfl
  ·intro g D w' hD _ _ hI;refine⟨g,fun _ _ _=>rfl,?_⟩;with_reducible refine yO rfl ?_
   have hI':=yH (hI.step yZ (k:=1) (by decide) (by decide));have d0:=(T2.out.below hI.1 T2.out.lt).cell 0;simp at d0;clear hI;go_wp2_with fail;all_goals first|exact hI'|exact⟨rfl,hI'⟩|rfl
  ·intro g D w' hD _ _ hI;refine⟨g,fun _ _ _=>rfl,?_⟩;with_reducible refine yO rfl ?_
   have HI:=yH hI;clear hI;go_wp2_with fail;refine(oB.out w').mono ?_;rintro e w'' ⟨rfl,hb2⟩;exact⟨rfl,HI.out.step hb2 (by decide) (by decide)⟩
  ·intro g D w' hD _ _ hI;refine⟨g,fun _ _ _=>rfl,?_⟩;with_reducible refine yO rfl ?_
   have hI':=yH (hI.step yZ (k:=3) (by decide) (by decide));clear hI;go_wp2_with fail;all_goals first|exact hI'|exact⟨rfl,hI'⟩|rfl
  ·intro g D w' hD _ _ hI;refine⟨g,fun _ _ _=>rfl,?_⟩;with_reducible refine yO rfl ?_
   have hI':=yH (hI.step yZ (k:=4) (by decide) (by decide));have d0:=(T1.out.below hI.1 T1.out.lt).cell 1;simp at d0;clear hI;go_wp2_with fail;all_goals first|exact hI'|exact⟨rfl,hI'⟩|rfl
  ·intro g D w' hD _ _ hI;refine⟨g,fun _ _ _=>rfl,?_⟩;with_reducible refine yO rfl ?_
   have HI:=yH hI;clear hI;go_wp2_with fail;refine(oC.out w').mono ?_;rintro e w'' ⟨rfl,hb2⟩;exact⟨rfl,HI.out.step hb2 (by decide) (by decide)⟩
  ·intro g D w' hD _ _ hI;refine⟨g,fun _ _ _=>rfl,?_⟩;with_reducible refine yO rfl ?_
   have HI:=yH hI;clear hI;go_wp2_with fail;refine(tY.out w').mono ?_;rintro e w'' ⟨rfl,hb2⟩;exact⟨rfl,HI.out.step hb2 (by decide) (by decide)⟩
  ·intro g D w' hD _ _ hI;refine⟨g,fun _ _ _=>rfl,?_⟩;with_reducible refine yO rfl ?_
   have hI':=yH (hI.step yZ (k:=7) (by decide) (by decide));clear hI;go_wp2_with fail;all_goals first|exact hI'|exact⟨rfl,hI'⟩|rfl
  ·intro g D w' hD _ hC hI
   have h9:D 9=false:=by
    by_cases h:D 9=true
    ·have:=hC 9 _ rfl h ⟨8,.data⟩ (by simp) rfl;rw[hD]at this
     cases this
    simpa using h
   refine⟨w'.heap.size,?_,?_⟩
   ·intro j hj hDj
    match j,hj,hDj with
    | 0,_,_=>rfl
    | 1,_,_=>rfl
    | 2,_,_=>rfl
    | 3,_,_=>rfl
    | 4,_,_=>rfl
    | 5,_,_=>rfl
    | 6,_,_=>rfl
    | 7,_,_=>rfl
    | 8,_,h=>rw[hD]at h;cases h
    | j+9,_,_=>rfl
   with_reducible refine yO rfl ?_
   have hI':=yH (hI.lay h9 (by decide));clear hI h9;go_wp2_with fail;all_goals first|exact hI'|exact⟨rfl,hI'⟩|rfl
  intro g D w' hD hW _ hI;have h8:D 8=true:=hW ⟨8,.data⟩ (by simp) rfl;obtain⟨hg,hk⟩:=hI.2.1 h8 hD;refine⟨g,fun _ _ _=>rfl,?_⟩;with_reducible refine yO rfl ?_
  refine wp_store_row 207 (.tmp 6) (.tmp 30) rfl g (arr y.testBit) rfl rfl 207 _ hk.out (aAo _) (by rw[aA6,aA6]) (aDo _) ⟨rfl,?_⟩;exact hI.fill (below_setRow hI.1 hg _) hg hk.row
 intro g4 D w4' hall hI;obtain⟨hb4,_,h9⟩:=hI;obtain⟨hg4,hk4⟩:=h9 (hall 9 (by decide));have B4:=yT B3 hb4;have KX4:=yB KX hb4;have KY:=yH hk4;clear hb4 h9 hg4 hk4 hall;dsimp only
 cases p
 ·cases q
  all_goals
   go_wp2_with (first
    | ((with_reducible refine wpList_load_row ?_ 207 (.tmp 5) ?_ g3 ?_ 207 (arr x.testBit) (0,0) _ KX4.out.out Tryz.underlying207 ?_ (aAo _) ?_);exact rfl;exact rfl;exact rfl;exact rfl)
    | ((with_reducible refine wpList_load_row ?_ 207 (.tmp 6) ?_ g4 ?_ 207 (arr y.testBit) (0,0) _ KY.out.out Tryz.underlying207 ?_ (aAo _) ?_);exact rfl;exact rfl;exact rfl;exact rfl))
   refine(gXY.out _).mono ?_;rintro e w5 ⟨rfl,b5⟩;have KX5:=yB KX4 b5;have KY5:=yB KY b5;have B5:=yT B4 b5;clear b5
   go_wp2_with (first
    | ((with_reducible refine wpList_load_row ?_ 207 (.tmp 5) ?_ g3 ?_ 207 (arr x.testBit) (0,0) _ KX5.out.out Tryz.underlying207 ?_ (aAo _) ?_);exact rfl;exact rfl;exact rfl;exact rfl)
    | ((with_reducible refine wpList_load_row ?_ 207 (.tmp 6) ?_ g4 ?_ 207 (arr y.testBit) (0,0) _ KY5.out.out Tryz.underlying207 ?_ (aAo _) ?_);exact rfl;exact rfl;exact rfl;exact rfl))
   refine(gYX.out _).mono ?_;rintro e w6 ⟨rfl,b6⟩;go_wp2_with fail;go_ret;exact⟨rfl,B5.out.trans (b6.mono B5.out.size)⟩
 go_wp2_with (first
  | ((with_reducible refine wpList_load_row ?_ 207 (.tmp 5) ?_ g3 ?_ 207 (arr x.testBit) (0,0) _ KX4.out.out Tryz.underlying207 ?_ (aAo _) ?_);exact rfl;exact rfl;exact rfl;exact rfl)
  | ((with_reducible refine wpList_load_row ?_ 207 (.tmp 6) ?_ g4 ?_ 207 (arr y.testBit) (0,0) _ KY.out.out Tryz.underlying207 ?_ (aAo _) ?_);exact rfl;exact rfl;exact rfl;exact rfl))
 refine(gXY.out _).mono ?_;rintro e w5 ⟨rfl,b5⟩;go_wp2_with fail;go_ret;exact⟨rfl,B4.out.trans (b5.mono B4.out.size)⟩
theorem aJu(an ad bn bd:Int)(w:World):
  Calls Tryz.prog 111 #[.agg #[.int .i64 an,.int .i64 ad],.agg #[.int .i64 bn,.int .i64 bd]] w (yR w (.int .i64 (cmpR an ad bn bd))):=by
 by_cases hm:mayB an ad=true
 ·by_cases hm2:mayB bn bd=true
  ·rw[show cmpR an ad bn bd=cmpI (an*bd) (bn*ad) by unfold cmpR;rw[if_pos ⟨hm,hm2⟩]];obtain⟨p1,p2,p3,p4,_⟩:=aC4 hm;obtain⟨q1,q2,q3,q4,_⟩:=aC4 hm2;obtain⟨a,rfl⟩:=Int.eq_ofNat_of_zero_le (show 0≤an by omega);obtain⟨b,rfl⟩:=Int.eq_ofNat_of_zero_le (show 0≤ad by omega);obtain⟨c,rfl⟩:=Int.eq_ofNat_of_zero_le (show 0≤bn by omega);obtain⟨d,rfl⟩:=Int.eq_ofNat_of_zero_le (show 0≤bd by omega);have:=aOi a b c d w hm hm2;rw[show(a:Int)*(d:Int)=((a*d:Nat):Int) by simp,show(c:Int)*(b:Int)=((c*b:Nat):Int) by simp];exact this
  rw[show cmpR an ad bn bd=0 by unfold cmpR;rw[if_neg (by simp[hm2])]];have c1:=yH (fun w=>aD7 an ad w);have c2:=yH (fun w=>aD7 bn bd w);have k1:Blk ((w.alloc (.cells #[.int .i64 an,.int .i64 ad] 46)).alloc (.cells #[.int .i64 bn,.int .i64 bd] 46)) (w.heap.size+1) #[.int .i64 bn,.int .i64 bd] 46:=pAC _ _ _ (by simp);have b0:Below w.heap.size w ((w.alloc (.cells #[.int .i64 an,.int .i64 ad] 46)).alloc (.cells #[.int .i64 bn,.int .i64 bd] 46)):=(yZ.alloc yL _).alloc (by simp) _;have K2:=yH k1;have B0:=yH b0;clear k1 b0;simp only[Bool.not_eq_true]at hm2;rw[hm]at c1;rw[hm2]at c2;clear hm hm2;go_enter Tryz.func111,Tryz.ntmps111;go_wp2_with fail;refine(c1.out _).mono ?_;rintro e w1 ⟨rfl,b1⟩;have B1:=yH (B0.out.trans (b1.mono (by simp;omega)));have r2:=K2.out.below b1 K2.out.lt;have e0:=r2.cell 0;have e1:=r2.cell 1;simp at e0 e1;clear r2 b1;go_wp2_with fail;refine(c2.out _).mono ?_;rintro e w2 ⟨rfl,b2⟩;go_wp2_with fail;go_ret;exact⟨rfl,B1.out.trans (b2.mono B1.out.size)⟩
 rw[show cmpR an ad bn bd=0 by unfold cmpR;rw[if_neg (by simp[hm])]];have c1:=yH (fun w=>aD7 an ad w);have b0:Below w.heap.size w ((w.alloc (.cells #[.int .i64 an,.int .i64 ad] 46)).alloc (.cells #[.int .i64 bn,.int .i64 bd] 46)):=(yZ.alloc yL _).alloc (by simp) _;have B0:=yH b0;clear b0;simp only[Bool.not_eq_true]at hm;rw[hm]at c1;clear hm;go_enter Tryz.func111,Tryz.ntmps111;go_wp2_with fail;refine(c1.out _).mono ?_;rintro e w1 ⟨rfl,b1⟩;go_wp2_with fail;go_ret;exact⟨rfl,B0.out.trans (b1.mono (by simp;omega))⟩
theorem aCp{P:Program}{ops:Array Oper}{rest:List Oper}{o:Oper}{a:Act}{w w':World}{Q:Exit→Act→World→Prop}(hgd:o.guard=none)(y x:Operand)(t:TypeId){u v v':Value}
  (ho:o.op=.call { callee:=.builtin .append,args:=#[y,x],argTypes:=#[t,t] })(hy:a.eval y=u)(hx:a.eval x=v)
  (hr:(Builtin.append_ #[t,t] o.type #[u,v]).run P w=.ok v' w')(h:wpList P ops Q rest (a.put o.dst v') w'):wpList P ops Q (o::rest) a w:=by
 refine wpList_plain hgd fun K hK=>?_
 unfold Oper.wp execOp;simp only[ho,resolve,invoke,builtin,Sem.run_bind,Sem.run_pure,Result.andThen_ok,List.map_toArray,List.map_cons,List.map_nil,hy,hx,hr];exact hK _ _ h
theorem aH1{w:World}{base:Nat}{v:Value}{n:Nat}{xs:List Value}(hown:w.ownsRow base 48 7 v n xs)(hn:n≤1000)(g o m c:Nat)(hm:m≤1000)(ys:List Of)(hy:ys.length=m)
  (hc:∀j,j<m*7→w.cell? ⟨g,o+j,none⟩=(aAa ys)[j]?)(ty:TypeId)(hb:base≤w.heap.size):
  ∃v' w',(Builtin.append_ #[23,23] ty #[v,.slice (some ⟨g,o,none⟩) m c]).run Tryz.prog w=.ok v' w'∧w'.ownsRow base 48 7 v' (n+m) (xs++aAa ys)∧w.grownBy w' v.ownBlock:=by
 obtain⟨i0,hi,hz0,hz1,hz2⟩:=info_parts aI1
 obtain⟨v',w',hr,h2,h3,_⟩:=run_append_own (P:=Tryz.prog) (w:=w) base 23 ty 48 i0 noOf.val 7 40 Tryz.underlying23 hi hz0 hz1 hz2 rfl (by decide) v n xs hown ⟨g,o,none⟩ m c (aAa ys) (by rw[aAn,hy]) (fun j u hj=>by
  have hjl:j<(aAa ys).length:=(List.getElem?_eq_some_iff.1 hj).1;rw[aAn,hy]at hjl;rw[Go.WideShapes.add_plain];exact(hc j hjl).trans hj) (aCt ys) (by unfold maxLen;omega) (by omega) hb
 exact⟨v',w',hr,h2,h3⟩
theorem aJv{w:World}{base:Nat}{v:Value}{n:Nat}{xs:List Value}(hown:w.ownsRow base 48 7 v n xs)(ty:TypeId):
  (Builtin.append_ #[23,23] ty #[v,.slice none 0 0]).run Tryz.prog w=.ok v w:=by
 obtain⟨i0,hi,hz0,hz1,hz2⟩:=info_parts aI1;exact run_append_owned_none (P:=Tryz.prog) (w:=w) base 23 ty 48 i0 7 Tryz.underlying23 hi v n xs hown
theorem aQc(ls:List Of){i j:Nat}(hi:i≤ls.length)(hj:j<i*7):(aAa (ls.take i))[j]? = (aAa ls)[j]? := by
 have h:=aAt (ls.take i) (ls.drop i);rw[List.take_append_drop]at h;rw[h,List.getElem?_append_left (by rw[aAn,List.length_take];omega)]
theorem aQd(ls:List Of){i j:Nat}(hi:i≤ls.length):(aAa (ls.drop i))[j]? = (aAa ls)[i*7+j]? := by
 have h:=aAt (ls.take i) (ls.drop i);rw[List.take_append_drop]at h;have hl:(aAa (ls.take i)).length=i*7:=by rw[aAn,List.length_take];congr 1;omega
 rw[h,List.getElem?_append_right (by omega),hl,Nat.add_sub_cancel_left]
theorem best_le{W:World}{b X n cap:Nat}{i c:Int}{x y:Of}{ao:Option Addr}(i4:0≤i)(hn:n≤1000)(HB:Hid (b<W.heap.size))(HY5:Hid (W.cell? ⟨b,i.toNat*7+5,none⟩=some (.int .i64 y.nu)))(HY6:Hid (W.cell? ⟨b,i.toNat*7+6,none⟩=some (.int .i64 y.de)))(KX:Hid (Blk W X #[.int .u64 x.se,.int .u8 x.ow,.int .u8 x.sl,.int .u8 x.bu,.int .i64 x.lf,.int .i64 x.nu,.int .i64 x.de] 48))(CC:Hid (∀w',Calls Tryz.prog 111 #[.agg #[.int .i64 y.nu,.int .i64 y.de],.agg #[.int .i64 x.nu,.int .i64 x.de]] w' fun e w''=>e=.returned (.int .i64 c)∧Below w'.heap.size w' w''))(i1:i<(n:Int))(c0:decide (i<(n:Int))=true)(c1:decide (c≤0)=true){Q:Exit→Act→World→Prop}{c0 c1 c2 c3 c4 c5 c6 c8 c11 c12 c13 c14 c15 c16 c17 c18 c19 c20 c21 c22 c23 c24 c25 c26 c27 c28 c29 c30 c31 c32 c33 c34 c35 c36 c37 c38 c39 c40 c41 c42 c43 c44 c45 c46 c47 c48 c49 c50 c51 c52 c53 c54 c55 c56 c57 c58 c59 c60 c61 c62 c63 c64 c65 c66 c67 c68 c69:Value}
  (hq:∀w6,(fun w'=>Below W.heap.size W w') w6→Q .normal ⟨#[c0,c1,c2,c3,c4,c5,c6,(.slice (some ⟨b,0,none⟩) n cap),c8,(.pointer (some ⟨X,0,none⟩)),(.int .i64 i),c11,c12,c13,c14,c15,c16,c17,c18,c19,c20,c21,c22,c23,c24,c25,c26,c27,c28,c29,c30,c31,c32,c33,c34,c35,c36,c37,(.int .i64 i),(.slice (some ⟨b,0,none⟩) n cap),(.int .i64 n),(.bool true),(.bool true),(.slice (some ⟨b,0,none⟩) n cap),(.int .i64 i),(.pointer (some ⟨b,i.toNat*7,none⟩)),(.pointer (some ⟨b,i.toNat*7+5,none⟩)),(.agg #[.int .i64 y.nu,.int .i64 y.de]),(.pointer (some ⟨X,5,none⟩)),(.agg #[.int .i64 x.nu,.int .i64 x.de]),(.int .i64 c),(.bool true),(.bool true),c53,c54,c55,c56,c57,c58,c59,c60,c61,c62,c63,c64,c65,c66,c67,c68,c69],[]⟩ w6):
  Code.wp Tryz.prog (((Tryz.f109.body).bind (aB9 8)).getD .skip) Q ⟨#[c0,c1,c2,c3,c4,c5,c6,(.slice (some ⟨b,0,none⟩) n cap),c8,(.pointer (some ⟨X,0,none⟩)),(.int .i64 i),c11,c12,c13,c14,c15,c16,c17,c18,c19,c20,c21,c22,c23,c24,c25,c26,c27,c28,c29,c30,c31,c32,c33,c34,c35,c36,c37,c38,c39,c40,c41,c42,c43,c44,c45,c46,c47,c48,c49,c50,c51,c52,c53,c54,c55,c56,c57,c58,c59,c60,c61,c62,c63,c64,c65,c66,c67,c68,c69],[]⟩ W:=by
 conv=>arg 2;whnf
 have HQ:=yH hq;clear hq
 refine aA3 (by kernel_rfl) [(.int .i64 i),(.slice (some ⟨b,0,none⟩) n cap),(.int .i64 n),(.bool true),(.bool true),(.slice (some ⟨b,0,none⟩) n cap),(.int .i64 i),(.pointer (some ⟨b,i.toNat*7,none⟩)),(.pointer (some ⟨b,i.toNat*7+5,none⟩)),(.agg #[.int .i64 y.nu,.int .i64 y.de]),(.pointer (some ⟨X,5,none⟩)),(.agg #[.int .i64 x.nu,.int .i64 x.de]),(.int .i64 c),(.bool true),(.bool true)]
  (fun w'=>Below W.heap.size W w') (by kernel_rfl) yZ.drew ?_
 intro af haf;simp only[yG,List.append_eq,List.cons_append,List.nil_append,puts,Act.put,yA,yC,yF,yD,yE]at haf;subst haf;refine⟨?_,?_⟩
 ·simp only[yG,List.append_eq,List.cons_append,List.nil_append,aBe];refine⟨?z1,?z2,?z3,?z4,?z5,?z7,?z8,?z9,?z10,?_,?z11,?_,?_,?z12,?z6,trivial⟩
  case z1|z2|z3|z4|z5|z6=>
   intro w' hS;refine yO rfl ?_;have HS:=yH hS;clear hS;go_wp2_with fail;all_goals first|exact HS|exact⟨rfl,HS⟩|rfl|exact⟨by omega,HS.out⟩
  case z7|z8|z9|z10|z11|z12=>
   intro w' hS;refine OpTo.wanted ?_ ?_
   kernel_rfl
   have HS:=yH hS;clear hS;go_wp2_with fail;all_goals first|exact HS|exact⟨rfl,HS⟩|rfl|exact⟨by omega,HS.out⟩
  ·intro w' hS;refine OpTo.wanted ?_ ?_
   kernel_rfl
   have e5:=(hS.cell (p:=⟨b,i.toNat*7+5,none⟩) HB.out).trans HY5.out;have e6:=(hS.cell (p:=⟨b,i.toNat*7+6,none⟩) HB.out).trans HY6.out;have HS:=yH hS;clear hS;go_wp2_with fail;all_goals first|exact HS|exact⟨rfl,HS⟩|rfl|exact⟨by omega,HS.out⟩
  ·intro w' hS;refine OpTo.wanted ?_ ?_
   kernel_rfl
   have d0_0:=(KX.out.below hS KX.out.lt).cell 0;have d0_1:=(KX.out.below hS KX.out.lt).cell 1;have d0_2:=(KX.out.below hS KX.out.lt).cell 2;have d0_3:=(KX.out.below hS KX.out.lt).cell 3;have d0_4:=(KX.out.below hS KX.out.lt).cell 4;have d0_5:=(KX.out.below hS KX.out.lt).cell 5;have d0_6:=(KX.out.below hS KX.out.lt).cell 6;simp at d0_0 d0_1 d0_2 d0_3 d0_4 d0_5 d0_6;have HS:=yH hS;clear hS;go_wp2_with fail;all_goals first|exact HS|exact⟨rfl,HS⟩|rfl|exact⟨by omega,HS.out⟩
  intro w' hS;refine OpTo.wanted ?_ ?_
  kernel_rfl
  have HS:=yH hS;clear hS;go_wp2_with fail;refine(CC.out w').mono ?_;rintro e w'' ⟨rfl,hb2⟩;exact⟨rfl,andB HS.out hb2⟩
 intro w6 b6;exact HQ.out w6 b6
theorem best_gt{W:World}{b X n cap:Nat}{i c:Int}{x y:Of}{ao:Option Addr}(i4:0≤i)(hn:n≤1000)(HB:Hid (b<W.heap.size))(HY5:Hid (W.cell? ⟨b,i.toNat*7+5,none⟩=some (.int .i64 y.nu)))(HY6:Hid (W.cell? ⟨b,i.toNat*7+6,none⟩=some (.int .i64 y.de)))(KX:Hid (Blk W X #[.int .u64 x.se,.int .u8 x.ow,.int .u8 x.sl,.int .u8 x.bu,.int .i64 x.lf,.int .i64 x.nu,.int .i64 x.de] 48))(CC:Hid (∀w',Calls Tryz.prog 111 #[.agg #[.int .i64 y.nu,.int .i64 y.de],.agg #[.int .i64 x.nu,.int .i64 x.de]] w' fun e w''=>e=.returned (.int .i64 c)∧Below w'.heap.size w' w''))(i1:i<(n:Int))(c0:decide (i<(n:Int))=true)(c1:decide (c≤0)=false){Q:Exit→Act→World→Prop}{c0 c1 c2 c3 c4 c5 c6 c8 c11 c12 c13 c14 c15 c16 c17 c18 c19 c20 c21 c22 c23 c24 c25 c26 c27 c28 c29 c30 c31 c32 c33 c34 c35 c36 c37 c38 c39 c40 c41 c42 c43 c44 c45 c46 c47 c48 c49 c50 c51 c52 c53 c54 c55 c56 c57 c58 c59 c60 c61 c62 c63 c64 c65 c66 c67 c68 c69:Value}
  (hq:∀w6,(fun w'=>Below W.heap.size W w') w6→Q .normal ⟨#[c0,c1,c2,c3,c4,c5,c6,(.slice (some ⟨b,0,none⟩) n cap),c8,(.pointer (some ⟨X,0,none⟩)),(.int .i64 i),c11,c12,c13,c14,c15,c16,c17,c18,c19,c20,c21,c22,c23,c24,c25,c26,c27,c28,c29,c30,c31,c32,c33,c34,c35,c36,c37,(.int .i64 i),(.slice (some ⟨b,0,none⟩) n cap),(.int .i64 n),(.bool true),(.bool true),(.slice (some ⟨b,0,none⟩) n cap),(.int .i64 i),(.pointer (some ⟨b,i.toNat*7,none⟩)),(.pointer (some ⟨b,i.toNat*7+5,none⟩)),(.agg #[.int .i64 y.nu,.int .i64 y.de]),(.pointer (some ⟨X,5,none⟩)),(.agg #[.int .i64 x.nu,.int .i64 x.de]),(.int .i64 c),(.bool false),(.bool false),c53,c54,c55,c56,c57,c58,c59,c60,c61,c62,c63,c64,c65,c66,c67,c68,c69],[]⟩ w6):
  Code.wp Tryz.prog (((Tryz.f109.body).bind (aB9 8)).getD .skip) Q ⟨#[c0,c1,c2,c3,c4,c5,c6,(.slice (some ⟨b,0,none⟩) n cap),c8,(.pointer (some ⟨X,0,none⟩)),(.int .i64 i),c11,c12,c13,c14,c15,c16,c17,c18,c19,c20,c21,c22,c23,c24,c25,c26,c27,c28,c29,c30,c31,c32,c33,c34,c35,c36,c37,c38,c39,c40,c41,c42,c43,c44,c45,c46,c47,c48,c49,c50,c51,c52,c53,c54,c55,c56,c57,c58,c59,c60,c61,c62,c63,c64,c65,c66,c67,c68,c69],[]⟩ W:=by
 conv=>arg 2;whnf
 have HQ:=yH hq;clear hq
 refine aA3 (by kernel_rfl) [(.int .i64 i),(.slice (some ⟨b,0,none⟩) n cap),(.int .i64 n),(.bool true),(.bool true),(.slice (some ⟨b,0,none⟩) n cap),(.int .i64 i),(.pointer (some ⟨b,i.toNat*7,none⟩)),(.pointer (some ⟨b,i.toNat*7+5,none⟩)),(.agg #[.int .i64 y.nu,.int .i64 y.de]),(.pointer (some ⟨X,5,none⟩)),(.agg #[.int .i64 x.nu,.int .i64 x.de]),(.int .i64 c),(.bool false),(.bool false)]
  (fun w'=>Below W.heap.size W w') (by kernel_rfl) yZ.drew ?_
 intro af haf;simp only[yG,List.append_eq,List.cons_append,List.nil_append,puts,Act.put,yA,yC,yF,yD,yE]at haf;subst haf;refine⟨?_,?_⟩
 ·simp only[yG,List.append_eq,List.cons_append,List.nil_append,aBe];refine⟨?z1,?z2,?z3,?z4,?z5,?z7,?z8,?z9,?z10,?_,?z11,?_,?_,?z12,?z6,trivial⟩
  case z1|z2|z3|z4|z5|z6=>
   intro w' hS;refine yO rfl ?_;have HS:=yH hS;clear hS;go_wp2_with fail;all_goals first|exact HS|exact⟨rfl,HS⟩|rfl|exact⟨by omega,HS.out⟩
  case z7|z8|z9|z10|z11|z12=>
   intro w' hS;refine OpTo.wanted ?_ ?_
   kernel_rfl
   have HS:=yH hS;clear hS;go_wp2_with fail;all_goals first|exact HS|exact⟨rfl,HS⟩|rfl|exact⟨by omega,HS.out⟩
  ·intro w' hS;refine OpTo.wanted ?_ ?_
   kernel_rfl
   have e5:=(hS.cell (p:=⟨b,i.toNat*7+5,none⟩) HB.out).trans HY5.out;have e6:=(hS.cell (p:=⟨b,i.toNat*7+6,none⟩) HB.out).trans HY6.out;have HS:=yH hS;clear hS;go_wp2_with fail;all_goals first|exact HS|exact⟨rfl,HS⟩|rfl|exact⟨by omega,HS.out⟩
  ·intro w' hS;refine OpTo.wanted ?_ ?_
   kernel_rfl
   have d0_0:=(KX.out.below hS KX.out.lt).cell 0;have d0_1:=(KX.out.below hS KX.out.lt).cell 1;have d0_2:=(KX.out.below hS KX.out.lt).cell 2;have d0_3:=(KX.out.below hS KX.out.lt).cell 3;have d0_4:=(KX.out.below hS KX.out.lt).cell 4;have d0_5:=(KX.out.below hS KX.out.lt).cell 5;have d0_6:=(KX.out.below hS KX.out.lt).cell 6;simp at d0_0 d0_1 d0_2 d0_3 d0_4 d0_5 d0_6;have HS:=yH hS;clear hS;go_wp2_with fail;all_goals first|exact HS|exact⟨rfl,HS⟩|rfl|exact⟨by omega,HS.out⟩
  intro w' hS;refine OpTo.wanted ?_ ?_
  kernel_rfl
  have HS:=yH hS;clear hS;go_wp2_with fail;refine(CC.out w').mono ?_;rintro e w'' ⟨rfl,hb2⟩;exact⟨rfl,andB HS.out hb2⟩
 intro w6 b6;exact HQ.out w6 b6
theorem best_end{W:World}{b X n cap:Nat}{i c:Int}{x y:Of}{ao:Option Addr}(i4:0≤i)(hn:n≤1000)(c0:decide (i<(n:Int))=false){Q:Exit→Act→World→Prop}{c0 c1 c2 c3 c4 c5 c6 c8 c9 c11 c12 c13 c14 c15 c16 c17 c18 c19 c20 c21 c22 c23 c24 c25 c26 c27 c28 c29 c30 c31 c32 c33 c34 c35 c36 c37 c38 c39 c40 c41 c42 c43 c44 c45 c46 c47 c48 c49 c50 c51 c52 c53 c54 c55 c56 c57 c58 c59 c60 c61 c62 c63 c64 c65 c66 c67 c68 c69:Value}
  (hq:∀w6,(fun w'=>Below W.heap.size W w') w6→Q .normal ⟨#[c0,c1,c2,c3,c4,c5,c6,(.slice ao n cap),c8,c9,(.int .i64 i),c11,c12,c13,c14,c15,c16,c17,c18,c19,c20,c21,c22,c23,c24,c25,c26,c27,c28,c29,c30,c31,c32,c33,c34,c35,c36,c37,(.int .i64 i),(.slice ao n cap),(.int .i64 n),(.bool false),(.bool false),undef,undef,undef,undef,undef,undef,undef,undef,undef,(.bool false),c53,c54,c55,c56,c57,c58,c59,c60,c61,c62,c63,c64,c65,c66,c67,c68,c69],[]⟩ w6):
  Code.wp Tryz.prog (((Tryz.f109.body).bind (aB9 8)).getD .skip) Q ⟨#[c0,c1,c2,c3,c4,c5,c6,(.slice ao n cap),c8,c9,(.int .i64 i),c11,c12,c13,c14,c15,c16,c17,c18,c19,c20,c21,c22,c23,c24,c25,c26,c27,c28,c29,c30,c31,c32,c33,c34,c35,c36,c37,c38,c39,c40,c41,c42,c43,c44,c45,c46,c47,c48,c49,c50,c51,c52,c53,c54,c55,c56,c57,c58,c59,c60,c61,c62,c63,c64,c65,c66,c67,c68,c69],[]⟩ W:=by
 conv=>arg 2;whnf
 have HQ:=yH hq;clear hq
 refine aA3 (by kernel_rfl) [(.int .i64 i),(.slice ao n cap),(.int .i64 n),(.bool false),(.bool false),undef,undef,undef,undef,undef,undef,undef,undef,undef,(.bool false)]
  (fun w'=>Below W.heap.size W w') (by kernel_rfl) yZ.drew ?_
 intro af haf;simp only[yG,List.append_eq,List.cons_append,List.nil_append,puts,Act.put,yA,yC,yF,yD,yE]at haf;subst haf;refine⟨?_,?_⟩
 ·simp only[yG,List.append_eq,List.cons_append,List.nil_append,aBe];refine⟨?z1,?z2,?z3,?z4,?z5,?z7,?z8,?z9,?z10,?z11,?z12,?z13,?z14,?z15,?z6,trivial⟩
  case z1|z2|z3|z4|z5|z6=>
   intro w' hS;refine yO rfl ?_;have HS:=yH hS;clear hS;go_wp2_with fail;all_goals first|exact HS|exact⟨rfl,HS⟩|rfl|exact⟨by omega,HS.out⟩
  case z7|z8|z9|z10|z11|z12|z13|z14|z15=>
   intro w' hS;refine pAD (by kernel_rfl) rfl hS
 intro w6 b6;exact HQ.out w6 b6
theorem aOj{P:Program}(w:World)(t e:TypeId)(ht:P.underlying t=some (.slice e))(hs:(sizeOf e).run P w=.ok 7 w):
  (Instr.sliceAt t (.slice none 0 0) none (some (.int .i64 0)) none).run P w=.ok (.slice none 0 0) w:=by
 simp[Instr.sliceAt,Instr.slice,run_underlying ht,Instr.sliceBounds,run_sliceBound,hs,Result.andThen,Addr.add]
theorem aMe{P:Program}(w:World)(t e:TypeId)(ht:P.underlying t=some (.slice e))(hs:(sizeOf e).run P w=.ok 7 w):
  (Instr.sliceAt t (.slice none 0 0) (some (.int .i64 0)) none none).run P w=.ok (.slice none 0 0) w:=by
 simp[Instr.sliceAt,Instr.slice,run_underlying ht,Instr.sliceBounds,run_sliceBound,hs,Result.andThen,Addr.add]
theorem aQe{w:World}{base:Nat}{v:Value}{n:Nat}{xs:List Value}(hown:w.ownsRow base 48 7 v n xs)(hn:n≤1000)(b cap j:Nat)(out:List Of)(hj:j≤out.length)(hcap:out.length≤cap)
  (hc:∀q,q<out.length*7→w.cell? ⟨b,q,none⟩=(aAa out)[q]?)(hl:out.length≤1000)(ty:TypeId)(hb:base≤w.heap.size):
  ∃v' w',(Builtin.append_ #[23,23] ty #[v,.slice (some (aHf b j cap)) (out.length - j) (cap - j)]).run Tryz.prog w=.ok v' w'∧w'.ownsRow base 48 7 v' (n+(out.length - j)) (xs++aAa (out.drop j))∧w.grownBy w' v.ownBlock:=by
 unfold aHf
 by_cases h:cap=j
 ·rw[if_pos h];exact aH1 hown hn b 0 (out.length - j) (cap - j) (by omega) (out.drop j) (by rw[List.length_drop]) (fun q hq=>by omega) ty hb
 rw[if_neg h];exact aH1 hown hn b (j*7) (out.length - j) (cap - j) (by omega) (out.drop j) (by rw[List.length_drop]) (fun q hq=>by rw[aQd out hj,hc _ (by omega)]) ty hb
theorem best_r11{W:World}{base j:Nat}{v:Value}{out:List Of}(HO:Hid (W.ownsRow base 48 7 v out.length (aAa out)))(hj:j≤out.length)(hl:out.length≤500){Q:Exit→Act→World→Prop}{c0 c1 c2 c3 c4 c5 c6 c8 c9 c12 c13 c14 c15 c16 c17 c18 c19 c20 c21 c22 c23 c24 c25 c26 c27 c28 c29 c30 c31 c32 c33 c34 c35 c36 c37 c38 c39 c40 c41 c42 c43 c44 c45 c46 c47 c48 c49 c50 c51 c52 c53 c54 c55 c56 c57 c58 c59 c60 c61 c62 c63 c64 c65 c66 c67 c68 c69:Value}
  (hq:∀(v1:Value) (d55 d56 d57 d58:Value) w6,(w6.ownsRow W.heap.size 48 7 v1 j (aAa (out.take j))∧Below W.heap.size W w6)→Q .normal ⟨#[c0,c1,c2,c3,c4,c5,c6,v,c8,c9,(.int .i64 (j:Nat)),v1,c12,c13,c14,c15,c16,c17,c18,c19,c20,c21,c22,c23,c24,c25,c26,c27,c28,c29,c30,c31,c32,c33,c34,c35,c36,c37,c38,c39,c40,c41,c42,c43,c44,c45,c46,c47,c48,c49,c50,c51,c52,c53,c54,d55,d56,d57,d58,v1,c60,c61,c62,c63,c64,c65,c66,c67,c68,c69],[]⟩ w6):
  Code.wp Tryz.prog (((Tryz.f109.body).bind (aB9 11)).getD .skip) Q ⟨#[c0,c1,c2,c3,c4,c5,c6,v,c8,c9,(.int .i64 (j:Nat)),(.slice none 0 0),c12,c13,c14,c15,c16,c17,c18,c19,c20,c21,c22,c23,c24,c25,c26,c27,c28,c29,c30,c31,c32,c33,c34,c35,c36,c37,c38,c39,c40,c41,c42,c43,c44,c45,c46,c47,c48,c49,c50,c51,c52,c53,c54,c55,c56,c57,c58,c59,c60,c61,c62,c63,c64,c65,c66,c67,c68,c69],[]⟩ W:=by
 conv=>arg 2;whnf
 have HQ:=yH hq;clear hq;rcases HO.out.2 with⟨rfl,hn0⟩|⟨b,cap,cur,rfl,hbw,hcur,hnc,hcm,hsz,htk⟩
 ·have hj0:j=0:=by omega
  subst hj0;have hr1:=fun ty=>aJv (w:=W) (base:=W.heap.size) (v:=.slice none 0 0) (n:=0) (xs:=[]) (World.ownsRow_nil _ _ _ _) ty
  have hs:=fun w=>aOj (P:=Tryz.prog) w 23 48 Tryz.underlying23 (Tryz.sizeOf48 w)
  go_wp2_with (at_builtin;refine aCp rfl (.tmp 55) (.tmp 58) 23 rfl rfl rfl (hr1 _) ?_);exact HQ.out _ _ _ _ _ _ ⟨by simpa [aAa]using World.ownsRow_nil W W.heap.size _ _,yZ⟩
 have hc:∀q,q<out.length*7→W.cell? ⟨b,q,none⟩=(aAa out)[q]? := fun q hq=>by
  have:=HO.out.cellAt q hq;exact this
 obtain⟨v1,u1,hr1,ho1,hg1⟩:=aH1 (w:=W) (base:=W.heap.size) (v:=.slice none 0 0) (n:=0) (xs:=[]) (World.ownsRow_nil _ _ _ _) (by omega) b 0 j cap (by omega) (out.take j) (by rw[List.length_take];omega) (fun q hq=>by rw[Nat.zero_add,hc q (by omega),aQc out (by omega) hq]) 23 yL;rw[Nat.zero_add,List.nil_append]at ho1;have c1:Below W.heap.size W u1:=yZ.grown hg1 yL (fun k hk=>by cases hk);have HE:=yH (And.intro ho1 c1);have hic:j≤cap:=by omega
 unfold maxLen at hcm;clear hc ho1 hg1 c1 hcur htk hsz;go_wp2_with (at_builtin;refine aCp rfl (.tmp 55) (.tmp 58) 23 rfl rfl rfl hr1 ?_);exact HQ.out _ _ _ _ _ _ HE.out
theorem best_r12{W:World}{base X:Nat}{v:Value}{ls:List Of}{x:Of}(HO:Hid (W.ownsRow base 48 7 v ls.length (aAa ls)))(KX:Hid (Blk W X #[.int .u64 x.se,.int .u8 x.ow,.int .u8 x.sl,.int .u8 x.bu,.int .i64 x.lf,.int .i64 x.nu,.int .i64 x.de] 48))(hb:base≤W.heap.size)(hl:ls.length≤500){Q:Exit→Act→World→Prop}{c0 c1 c2 c3 c4 c5 c6 c7 c8 c10 c12 c13 c14 c15 c16 c17 c18 c19 c20 c21 c22 c23 c24 c25 c26 c27 c28 c29 c30 c31 c32 c33 c34 c35 c36 c37 c38 c39 c40 c41 c42 c43 c44 c45 c46 c47 c48 c49 c50 c51 c52 c53 c54 c55 c56 c57 c58 c59 c60 c61 c62 c63 c64 c65 c66 c67 c68 c69:Value}
  (hq:∀(v2:Value) (d60 d61 d62:Value) w6,(w6.ownsRow base 48 7 v2 (ls++[x]).length (aAa (ls++[x]))∧∀B,B≤base→Below B W w6)→Q .normal ⟨#[c0,c1,c2,c3,c4,c5,c6,c7,c8,(.pointer (some ⟨X,0,none⟩)),c10,v2,c12,c13,c14,c15,c16,c17,c18,c19,c20,c21,c22,c23,c24,c25,c26,c27,c28,c29,c30,c31,c32,c33,c34,c35,c36,c37,c38,c39,c40,c41,c42,c43,c44,c45,c46,c47,c48,c49,c50,c51,c52,c53,c54,c55,c56,c57,c58,c59,d60,d61,d62,v2,c64,c65,c66,c67,c68,c69],[]⟩ w6):
  Code.wp Tryz.prog (((Tryz.f109.body).bind (aB9 12)).getD .skip) Q ⟨#[c0,c1,c2,c3,c4,c5,c6,c7,c8,(.pointer (some ⟨X,0,none⟩)),c10,v,c12,c13,c14,c15,c16,c17,c18,c19,c20,c21,c22,c23,c24,c25,c26,c27,c28,c29,c30,c31,c32,c33,c34,c35,c36,c37,c38,c39,c40,c41,c42,c43,c44,c45,c46,c47,c48,c49,c50,c51,c52,c53,c54,c55,c56,c57,c58,c59,c60,c61,c62,c63,c64,c65,c66,c67,c68,c69],[]⟩ W:=by
 conv=>arg 2;whnf
 have HQ:=yH hq;clear hq;have y0:=KX.out.cell 0;have y1:=KX.out.cell 1;have y2:=KX.out.cell 2;have y3:=KX.out.cell 3;have y4:=KX.out.cell 4;have y5:=KX.out.cell 5;have y6:=KX.out.cell 6;simp at y0 y1 y2 y3 y4 y5 y6;go_wp2_with (at_builtin;refine aDa _ rfl (.tmp 60) (.tmp 62) rfl base _ ls rfl (HO.out.alloc _) _ _ x rfl (pAA _ _ _) (by omega) (by simp;omega) ?_);intro v2 u2 ho2 hg2;have ho3:u2.ownsRow base 48 7 v2 (ls++[x]).length (aAa (ls++[x])):=by simpa using ho2
 have c2:∀B,B≤base→Below B W u2:=fun B hB=>((Below.refl B W).alloc (Nat.le_trans hB hb) _).grown hg2 (by simp;omega) (fun k hk=>Nat.le_trans hB (aAe HO.out hk).1)
 have HE:=yH (And.intro ho3 c2);clear ho2 ho3 hg2 c2;go_wp2_with fail;exact HQ.out _ _ _ _ _ HE.out
theorem best_r13{W:World}{base base2 j n:Nat}{v v2:Value}{out:List Of}{xs:List Value}(HO:Hid (W.ownsRow base2 48 7 v out.length (aAa out)))(H2:Hid (W.ownsRow base 48 7 v2 n xs))(hj:j≤out.length)(hl:out.length≤500)(hn:n≤1000)(hb:base≤W.heap.size){Q:Exit→Act→World→Prop}{c0 c1 c2 c3 c4 c5 c6 c8 c9 c12 c13 c14 c15 c16 c17 c18 c19 c20 c21 c22 c23 c24 c25 c26 c27 c28 c29 c30 c31 c32 c33 c34 c35 c36 c37 c38 c39 c40 c41 c42 c43 c44 c45 c46 c47 c48 c49 c50 c51 c52 c53 c54 c55 c56 c57 c58 c59 c60 c61 c62 c63 c64 c65 c66 c67 c68 c69:Value}
  (hq:∀(v3:Value) (d64 d65 d66 d67:Value) w6,(w6.ownsRow base 48 7 v3 (n+(out.length - j)) (xs++aAa (out.drop j))∧∀B,B≤base→Below B W w6)→Q .normal ⟨#[c0,c1,c2,c3,c4,c5,c6,v3,c8,c9,(.int .i64 (j:Nat)),v2,c12,c13,c14,c15,c16,c17,c18,c19,c20,c21,c22,c23,c24,c25,c26,c27,c28,c29,c30,c31,c32,c33,c34,c35,c36,c37,c38,c39,c40,c41,c42,c43,c44,c45,c46,c47,c48,c49,c50,c51,c52,c53,c54,c55,c56,c57,c58,c59,c60,c61,c62,c63,d64,d65,d66,d67,v3,c69],[]⟩ w6):
  Code.wp Tryz.prog (((Tryz.f109.body).bind (aB9 13)).getD .skip) Q ⟨#[c0,c1,c2,c3,c4,c5,c6,v,c8,c9,(.int .i64 (j:Nat)),v2,c12,c13,c14,c15,c16,c17,c18,c19,c20,c21,c22,c23,c24,c25,c26,c27,c28,c29,c30,c31,c32,c33,c34,c35,c36,c37,c38,c39,c40,c41,c42,c43,c44,c45,c46,c47,c48,c49,c50,c51,c52,c53,c54,c55,c56,c57,c58,c59,c60,c61,c62,c63,c64,c65,c66,c67,c68,c69],[]⟩ W:=by
 conv=>arg 2;whnf
 have HQ:=yH hq;clear hq;rcases HO.out.2 with⟨rfl,hn0⟩|⟨b,cap,cur,rfl,hbw,hcur,hnc,hcm,hsz,htk⟩
 ·have hj0:j=0:=by omega
  subst hj0;have hr1:=fun ty=>aJv (w:=W) H2.out ty
  have hs:=fun w=>aMe (P:=Tryz.prog) w 23 48 Tryz.underlying23 (Tryz.sizeOf48 w)
  have hd:out.drop 0=[]:=List.eq_nil_of_length_eq_zero (by rw[List.drop_zero];exact hn0);have HE:=yH (show W.ownsRow base 48 7 v2 (n+(out.length - 0)) (xs++aAa (out.drop 0))∧∀B,B≤base→Below B W W from⟨by rw[hd,hn0];simpa [aAa]using H2.out,fun B _=>yZ⟩);clear hd;go_wp2_with (at_builtin;refine aCp rfl (.tmp 64) (.tmp 67) 23 rfl rfl rfl (hr1 _) ?_);exact HQ.out _ _ _ _ _ _ HE.out
 have hc:∀q,q<out.length*7→W.cell? ⟨b,q,none⟩=(aAa out)[q]? := fun q hq=>HO.out.cellAt q hq
 obtain⟨v3,u3,hr3,ho3,hg3⟩:=aQe H2.out hn b cap j out hj hnc hc (by omega) 23 hb;have c3:∀B,B≤base→Below B W u3:=fun B hB=>yZ.grown hg3 (Nat.le_trans hB hb) (fun k hk=>Nat.le_trans hB (aAe H2.out hk).1)
 have HE:=yH (And.intro ho3 c3);have hs:=aE5 (P:=Tryz.prog) W 23 48 Tryz.underlying23 (Tryz.sizeOf48 _) b out.length cap j hj hnc (j:Int) rfl;unfold maxLen at hcm;clear hc ho3 hg3 c3 hcur htk hsz;go_wp2_with (at_builtin;refine aCp rfl (.tmp 64) (.tmp 67) 23 rfl rfl rfl hr3 ?_);exact HQ.out _ _ _ _ _ _ HE.out
def BestPost(w:World)(l:List Of)(s b:Int)(e:Ending)(w':World):Prop:=
 ∃v,e=.returned v∧w'.ownsRow w.heap.size 48 7 v (aBt l s b).length (aAa (aBt l s b))∧Below w.heap.size w w'
def BestAt(w:World)(l:List Of)(s b:Int)(v i:Value)(wr:World):Prop:=
 ∃k:Nat,k≤l.length∧i=.int .i64 k∧wr.ownsRow w.heap.size 48 7 v (aBt (l.take k) s b).length (aAa (aBt (l.take k) s b))∧Below w.heap.size w wr
def BestIn(W:World)(x:Of)(out:List Of)(i:Value)(wr:World):Prop:=
 ∃j:Nat,j≤out.length∧i=.int .i64 j∧Hid (∀y∈out.take j,aBh x y=true)∧Below W.heap.size W wr
theorem bbest_any{w:World}{base g:Nat}{l:List Of}{N:Int}{vl:Value}(h:RefB w base g l N vl)(s bu:Int)(hlen:l.length≤500):
  Calls Tryz.prog 109 #[.pointer (some ⟨g,0,none⟩),.int .u8 s,.int .u8 bu] w (BestPost w l s bu):=by
 have H:=yH h;obtain⟨ao,cap0,rfl,hc1,hc2,hc3,hc4⟩:=aAd h.row;have HC:=yH hc4;have hg:=h.blk.lt;unfold maxLen at hc2;clear hc3 hc4 h;go_enter Tryz.func109,Tryz.ntmps109;go_wp2_with fail
 go_loopw [7,8] (BestAt w l s bu) (fun _ i _=>l.length - (intOf i).toNat)
 case atStart=>exact⟨0,Nat.zero_le _,rfl,World.ownsRow_nil _ _ _ _,yZ⟩
 obtain⟨k,hk,rfl,hown,hb⟩:=hrel;have hlo:=bestO_len (l.take k) s bu;have hlk:(l.take k).length≤k:=List.length_take_le _ _;have dg:=(H.out.blk.below hb hg).cell 0;simp at dg
 by_cases hkl:k<l.length
 ·obtain⟨b0,rfl,hb1,hb2,hcell,_⟩:=HC.out (by omega);obtain⟨e0,e1,e2,e3,e4,e5,e6⟩:=aCn (w:=wr) (fun j hj=>by rw[hb.cell (p:=⟨b0,j,none⟩) hb2];exact hcell j hj) hkl;have NX:=yH (bestO_next l s bu k hkl);clear hcell;generalize l[k]=x at *;generalize aBt (l.take k) s bu=out at *;have hl2:out.length≤500:=by omega
  have A0:=(Below.refl wr.heap.size wr).alloc yL (.cells #[.int .u64 x.se,.int .u8 x.ow,.int .u8 x.sl,.int .u8 x.bu,.int .i64 x.lf,.int .i64 x.nu,.int .i64 x.de] 48);have BW:=yH (hb.trans (A0.mono hb.size));have KX:=yH (pAA wr #[.int .u64 x.se,.int .u8 x.ow,.int .u8 x.sl,.int .u8 x.bu,.int .i64 x.lf,.int .i64 x.nu,.int .i64 x.de] 48);have OW:=yH (hown.alloc (.cells #[.int .u64 x.se,.int .u8 x.ow,.int .u8 x.sl,.int .u8 x.bu,.int .i64 x.lf,.int .i64 x.nu,.int .i64 x.de] 48));clear hown hb A0
  by_cases hs:x.sl=s
  case neg=>
   have q2:(x.sl != s)=true:=by simpa using hs
   have NX2:Hid (aBt (l.take (k+1)) s bu=out):=yH (by rw[NX.out];unfold aCg;rw[if_neg (fun h=>hs h.1)]);clear hs NX;go_wp2_with fail;go_roundw
   case rel=>exact⟨k+1,by omega,by go_num,by rw[NX2.out];exact OW.out,BW.out⟩
   case measure=>simp[intOf];omega
  by_cases hbu:x.bu=bu
  case neg=>
   have q2:(x.sl != s)=false:=by simpa using hs
   have q4:(x.bu != bu)=true:=by simpa using hbu
   have NX2:Hid (aBt (l.take (k+1)) s bu=out):=yH (by rw[NX.out];unfold aCg;rw[if_neg (fun h=>hbu h.2)]);clear hs hbu NX;go_wp2_with fail;go_roundw
   case rel=>exact⟨k+1,by omega,by go_num,by rw[NX2.out];exact OW.out,BW.out⟩
   case measure=>simp[intOf];omega
  have q2:(x.sl != s)=false:=by simpa using hs
  have q4:(x.bu != bu)=false:=by simpa using hbu
  replace NX:Hid (aBt (l.take (k+1)) s bu=insO out x):=yH (by rw[NX.out];unfold aCg;rw[if_pos ⟨hs,hbu⟩])
  clear hs hbu;generalize hX:wr.heap.size=X at KX;have OW2:=yH OW.out;obtain⟨ao,cap,hvo,hcl1,hcl2,_,hrow⟩:=aAd OW.out;subst hvo
  have HCW:Hid (∀j,j<out.length→∃b,ao=some ⟨b,0,none⟩∧b<(wr.alloc (.cells #[.int .u64 x.se,.int .u8 x.ow,.int .u8 x.sl,.int .u8 x.bu,.int .i64 x.lf,.int .i64 x.nu,.int .i64 x.de] 48)).heap.size∧(wr.alloc (.cells #[.int .u64 x.se,.int .u8 x.ow,.int .u8 x.sl,.int .u8 x.bu,.int .i64 x.lf,.int .i64 x.nu,.int .i64 x.de] 48)).cell? ⟨b,j*7+5,none⟩=(aAa out)[j*7+5]? ∧ (wr.alloc (.cells #[.int .u64 x.se,.int .u8 x.ow,.int .u8 x.sl,.int .u8 x.bu,.int .i64 x.lf,.int .i64 x.nu,.int .i64 x.de] 48)).cell? ⟨b,j*7+6,none⟩=(aAa out)[j*7+6]?):=yH (fun j hj=>by
   obtain⟨b,hb,_,hlt,hc,_⟩:=hrow (by omega);exact⟨b,hb,hlt,hc _ (by omega),hc _ (by omega)⟩)
  unfold maxLen at hcl2;clear hrow OW;go_wp2_with fail
  try rw[hX]
  generalize wr.alloc (.cells #[.int .u64 x.se,.int .u8 x.ow,.int .u8 x.sl,.int .u8 x.bu,.int .i64 x.lf,.int .i64 x.nu,.int .i64 x.de] 48)=W at *
  go_loopw [10] (BestIn W x out) (fun i _=>out.length - (intOf i).toNat)
  case atStart=>exact⟨0,Nat.zero_le _,rfl,yH (by simp),yZ⟩
  obtain⟨j,hj,rfl,HJ,hBI⟩:=hrel;have BI:=yH hBI;clear hBI
  by_cases hjl:j<out.length
  ·obtain⟨b,rfl,hbW,hc5,hc6⟩:=HCW.out j hjl;have HB:Hid (b<wr.heap.size):=yH (yM hbW BI.out.size);have HY5:Hid (wr.cell? ⟨b,((j:Nat):Int).toNat*7+5,none⟩=some (.int .i64 out[j].nu)):=yH (by rw[Int.toNat_natCast];exact((BI.out.cell (p:=⟨b,j*7+5,none⟩) hbW).trans hc5).trans (aAm out j 5 (by omega) hjl));have HY6:Hid (wr.cell? ⟨b,((j:Nat):Int).toNat*7+6,none⟩=some (.int .i64 out[j].de)):=yH (by rw[Int.toNat_natCast];exact((BI.out.cell (p:=⟨b,j*7+6,none⟩) hbW).trans hc6).trans (aAm out j 6 (by omega) hjl));have KX2:=yH (KX.out.below BI.out KX.out.lt);have CC:=yH (fun w'=>aJu out[j].nu out[j].de x.nu x.de w');have TN:=yH (fun h=>aEh (q:=fun y=>aBh x y=true) hjl HJ.out h);have c0:decide (((j:Nat):Int)<(out.length:Int))=true:=by simp;omega
   clear hc5 hc6
   by_cases hc:cmpR out[j].nu out[j].de x.nu x.de≤0
   ·have hnw:=TN.out (show aBh x out[j]=true by unfold aBh;simpa using hc);have HN:=yH hnw;have c1:decide (cmpR out[j].nu out[j].de x.nu x.de≤0)=true:=by simpa using hc
    clear hnw TN hc;go_wp2_with fail;refine best_le (ao:=none) (by omega) (by omega) HB HY5 HY6 KX2 CC (by omega) c0 c1 ?_;intro w3 b3;have B3:=yT BI b3;clear b3 c0 c1 CC HY5 HY6 KX2;go_wp2_with fail;go_roundw
    case rel=>exact⟨j+1,by omega,by go_num,HN,B3.out⟩
    case measure=>simp[intOf];omega
   have hnw:aBh x out[j]=false:=by unfold aBh;simpa using hc
   have c1:decide (cmpR out[j].nu out[j].de x.nu x.de≤0)=false:=by simpa using hc
   have HIN:=yH (insO_at (x:=x) (l:=out) (j:=j) HJ.out (fun _=>hnw));clear TN hc hnw;go_wp2_with fail;refine best_gt (ao:=none) (by omega) (by omega) HB HY5 HY6 KX2 CC (by omega) c0 c1 ?_;clear c0 c1 CC HY5 HY6 KX2 HB;intro w3 b3;have B3:=yT BI b3;have KX3:=yH (KX.out.below B3.out KX.out.lt);have OW3:=yH (aAc OW2.out B3.out);have BT:=yH (BW.out.trans (B3.out.mono BW.out.size));clear b3 BI B3 HJ
   go_upto_region 11 with(fail)
   refine best_r11 OW3 (by omega) hl2 ?_;rintro v1 d55 d56 d57 d58 w4 ⟨ho4,b4⟩;have O4:=yH (show w4.ownsRow w3.heap.size 48 7 v1 (out.take j).length (aAa (out.take j)) by rw[List.length_take,Nat.min_eq_left (by omega)];exact ho4);have KX4:=yB KX3 b4;have OW4:=yH (aAc OW3.out b4);have BT4:=yT BT b4;have hz4:=b4.size;clear ho4 b4 KX3
   go_upto_region 12 with(fail)
   refine best_r12 O4 KX4 hz4 (by rw[List.length_take];omega) ?_;rintro v2 d60 d61 d62 w5 ⟨ho5,b5⟩;have O5:=yH (show w5.ownsRow w3.heap.size 48 7 v2 (j+1) (aAa (out.take j++[x])) by rw[List.length_append,List.length_take,Nat.min_eq_left (by omega)]at ho5;exact ho5);have hb5:=b5 w3.heap.size yL;have OW5:=yH (aAl OW4.out (⟨hb5.os,hb5.tape,hb5.output,hb5.size,fun k _ hs=>hb5.block k (Nat.lt_of_not_le hs)⟩:Keep (fun b=>w3.heap.size≤b) w4 w5) (fun b hb hs=>by have:=(aAe OW3.out hb).2.1;omega));have BT5:=yH (BT4.out.trans (b5 w.heap.size (by have:=BT.out.size;omega)));have hz5:=Nat.le_trans hz4 hb5.size;clear ho5 b5 hb5 KX4 O4 OW4 BT4
   go_upto_region 13 with(fail)
   refine best_r13 OW5 O5 (by omega) hl2 (by omega) hz5 ?_;rintro v3 d64 d65 d66 d67 w6 ⟨ho6,b6⟩;have hlen3:(insO out x).length=j+1+(out.length - j):=by rw[aOf];omega
   rw[←aAt,List.append_assoc,List.singleton_append,←HIN.out]at ho6;have O6:=yH (aA4 ho6 BT.out.size);have B6:=yH (BT5.out.trans (b6 w.heap.size (by have:=BT.out.size;omega)));clear ho6 b6 OW5 O5 BT5;go_wp2_with fail;go_roundw
   case rel=>exact⟨k+1,by omega,by go_num,by rw[NX.out,hlen3];exact O6.out,B6.out⟩
   case measure=>simp[intOf];omega
  have c0:decide (((j:Nat):Int)<(out.length:Int))=false:=by simp;omega
  have HIN:=yH (insO_at (x:=x) (l:=out) (j:=j) HJ.out (fun h=>absurd h hjl));go_wp2_with fail;refine best_end (X:=X) (x:=x) (y:=x) (b:=0) (c:=0) (by omega) (by omega) c0 ?_;clear c0;intro w3 b3;have B3:=yT BI b3;have KX3:=yH (KX.out.below B3.out KX.out.lt);have OW3:=yH (aAc OW2.out B3.out);have BT:=yH (BW.out.trans (B3.out.mono BW.out.size));clear b3 BI B3 HJ
  go_upto_region 11 with(fail)
  refine best_r11 OW3 (by omega) hl2 ?_;rintro v1 d55 d56 d57 d58 w4 ⟨ho4,b4⟩;have O4:=yH (show w4.ownsRow w3.heap.size 48 7 v1 (out.take j).length (aAa (out.take j)) by rw[List.length_take,Nat.min_eq_left (by omega)];exact ho4);have KX4:=yB KX3 b4;have OW4:=yH (aAc OW3.out b4);have BT4:=yT BT b4;have hz4:=b4.size;clear ho4 b4 KX3
  go_upto_region 12 with(fail)
  refine best_r12 O4 KX4 hz4 (by rw[List.length_take];omega) ?_;rintro v2 d60 d61 d62 w5 ⟨ho5,b5⟩;have O5:=yH (show w5.ownsRow w3.heap.size 48 7 v2 (j+1) (aAa (out.take j++[x])) by rw[List.length_append,List.length_take,Nat.min_eq_left (by omega)]at ho5;exact ho5);have hb5:=b5 w3.heap.size yL;have OW5:=yH (aAl OW4.out (⟨hb5.os,hb5.tape,hb5.output,hb5.size,fun k _ hs=>hb5.block k (Nat.lt_of_not_le hs)⟩:Keep (fun b=>w3.heap.size≤b) w4 w5) (fun b hb hs=>by have:=(aAe OW3.out hb).2.1;omega));have BT5:=yH (BT4.out.trans (b5 w.heap.size (by have:=BT.out.size;omega)));have hz5:=Nat.le_trans hz4 hb5.size;clear ho5 b5 hb5 KX4 O4 OW4 BT4
  go_upto_region 13 with(fail)
  refine best_r13 OW5 O5 (by omega) hl2 (by omega) hz5 ?_;rintro v3 d64 d65 d66 d67 w6 ⟨ho6,b6⟩;have hlen3:(insO out x).length=j+1+(out.length - j):=by rw[aOf];omega
  rw[←aAt,List.append_assoc,List.singleton_append,←HIN.out]at ho6;have O6:=yH (aA4 ho6 BT.out.size);have B6:=yH (BT5.out.trans (b6 w.heap.size (by have:=BT.out.size;omega)));clear ho6 b6 OW5 O5 BT5;go_wp2_with fail;go_roundw
  case rel=>exact⟨k+1,by omega,by go_num,by rw[NX.out,hlen3];exact O6.out,B6.out⟩
  case measure=>simp[intOf];omega
 have hke:l.take k=l:=List.take_of_length_le (by omega);rw[hke]at hown;have O0:=yH hown;have B0:=yH hb;clear hown hb;go_wp2_with fail;go_ret;exact⟨_,rfl,O0.out,B0.out⟩
theorem own_rate12{w:World}{base n cap:Nat}{ao:Option Addr}{os:List Of}(h:w.ownsRow base 48 7 (.slice ao n cap) n (aAa os)){k:Nat}(hk:k<os.length):
  ∃b,ao=some ⟨b,0,none⟩∧∀w',Below w.heap.size w w'→b<w'.heap.size∧w'.cell? ⟨b,k*7+5,none⟩=some (.int .i64 os[k].nu)∧w'.cell? ⟨b,k*7+6,none⟩=some (.int .i64 os[k].de):=by
 obtain⟨hl,h2⟩:=h;have hz:(aAa os).length=os.length*7:=aAn os;rcases h2 with⟨h2,h3⟩|⟨g,cap',cur,hv,hge,hg,hnc,hcm,hsz,htk⟩
 ·have:=hl;rw[h3]at this;omega
 cases hv
 have hB:Blk w g cur 48:=hg;refine⟨g,rfl,fun w' k'=>⟨(hB.below k' hB.lt).lt,?_,?_⟩⟩
 ·rw[(hB.below k' hB.lt).cell];have e:=aAm os k 5 (by omega) hk;rw[←htk,List.getElem?_take_of_lt (by omega),Array.getElem?_toList]at e;simpa [Of.vals]using e
 rw[(hB.below k' hB.lt).cell];have e:=aAm os k 6 (by omega) hk;rw[←htk,List.getElem?_take_of_lt (by omega),Array.getElem?_toList]at e;simpa [Of.vals]using e
def AgAt(W:World)(os:List Of)(nu de:Int)(i:Value)(wr:World):Prop:=
 ∃k:Nat,k≤os.length∧i=.int .i64 k∧Below W.heap.size W wr∧Hid (∀y∈os.take k,decide (cmpR y.nu y.de de nu≤0)=true)
def AgPost(w:World)(l:List Of)(x:Of)(e:Ending)(w':World):Prop:=
 ∃v,e=.returned v∧w'.ownsRow w.heap.size 48 7 v (agO l x.sl x.bu x.nu x.de).length (aAa (agO l x.sl x.bu x.nu x.de))∧Below w.heap.size w w'
theorem aQf{w:World}{bb rl rb:Nat}{l:List Of}{N:Int}{vb:Value}(hB:RefB w bb rb l N vb)(hJ:BInv l N)(x:Of)(hx:mayB x.nu x.de=true):
  Calls Tryz.prog 51 #[.agg #[.pointer (some ⟨rl,0,none⟩),.pointer (some ⟨rb,0,none⟩)],.agg #[.int .u64 x.se,.int .u8 x.ow,.int .u8 x.sl,.int .u8 x.bu,.int .i64 x.lf,.int .i64 x.nu,.int .i64 x.de]] w (AgPost w l x):=by
 have b1:=(Below.refl w.heap.size w).alloc yL (.cells #[.pointer (some ⟨rl,0,none⟩),.pointer (some ⟨rb,0,none⟩)] 36);have b2:=b1.alloc b1.size (.cells #[.int .u64 x.se,.int .u8 x.ow,.int .u8 x.sl,.int .u8 x.bu,.int .i64 x.lf,.int .i64 x.nu,.int .i64 x.de] 48);have KX:=yH ((pAA w #[.pointer (some ⟨rl,0,none⟩),.pointer (some ⟨rb,0,none⟩)] 36).alloc (.cells #[.int .u64 x.se,.int .u8 x.ow,.int .u8 x.sl,.int .u8 x.bu,.int .i64 x.lf,.int .i64 x.nu,.int .i64 x.de] 48));have KO:=yH (pAC (w.alloc (.cells #[.pointer (some ⟨rl,0,none⟩),.pointer (some ⟨rb,0,none⟩)] 36)) #[.int .u64 x.se,.int .u8 x.ow,.int .u8 x.sl,.int .u8 x.bu,.int .i64 x.lf,.int .i64 x.nu,.int .i64 x.de] 48 (g:=w.heap.size+1) (by simp));have HB:=yH (hB.below b2);have B2:=yH b2;have HLl:=yH hJ.len;have CI:=yH (fun w=>aPu x.nu x.de w);rw[hx]at CI;simp only[if_true]at CI;clear b1 b2 hB;go_enter Tryz.func51,Tryz.ntmps51
 go_upto_region 1 with fail
 generalize (w.alloc (.cells #[.pointer (some ⟨rl,0,none⟩),.pointer (some ⟨rb,0,none⟩)] 36)).alloc (.cells #[.int .u64 x.se,.int .u8 x.ow,.int .u8 x.sl,.int .u8 x.bu,.int .i64 x.lf,.int .i64 x.nu,.int .i64 x.de] 48)=W at *;have x0:=KX.out.cell 0;have x1:=KX.out.cell 1;have o0:=KO.out.cell 0;have o1:=KO.out.cell 1;have o2:=KO.out.cell 2;have o3:=KO.out.cell 3;have o4:=KO.out.cell 4;have o5:=KO.out.cell 5;have o6:=KO.out.cell 6;simp at x0 x1 o0 o1 o2 o3 o4 o5 o6;have CB:=yH (bbest_any HB.out x.bu x.sl (by have:=HLl.out;omega));go_wp2_with fail;refine CB.out.mono ?_;rintro e w1 ⟨v,rfl,hv,hb1⟩;have KO1:=yB KO hb1;have HV1:=yH (aA4 hv B2.out.size);have B3:=yT B2 hb1;clear hv hb1 x0 x1 o0 o1 o2 o3 o4 o5 o6 CB;have o5:=KO1.out.cell 5;have o6:=KO1.out.cell 6;have ol:=KO1.out.lt;simp at o5 o6;go_wp2_with fail;refine(CI.out w1).mono ?_;rintro e w2 ⟨rfl,b2⟩;have bm:=(Below.refl w2.heap.size w2).alloc yL (.cells #[.int .i64 x.de,.int .i64 x.nu] 46);have KM:=yH (pAA w2 #[.int .i64 x.de,.int .i64 x.nu] 46);have HV2:=yH (aAc (aAc HV1.out b2) bm);have B4:=yH ((B3.out.trans (b2.mono B3.out.size)).trans (bm.mono (by have:=B3.out.size;have:=b2.size;omega)));clear b2 bm o5 o6 ol KO1 HV1 B3 CI KX KO HB B2
 go_upto_region 3 with fail
 generalize w2.alloc (.cells #[.int .i64 x.de,.int .i64 x.nu] 46)=W2 at *;obtain⟨ao,cap,rfl,hc1,hc2,hc3,hc4⟩:=aAd HV2.out;unfold maxLen at hc2;clear hc3 hc4;go_wp2_with fail
 go_loopw [7] (fun i wr=>AgAt W2 (aBt l x.bu x.sl) x.nu x.de i wr) (fun i _=>(aBt l x.bu x.sl).length - (intOf i).toNat)
 case atStart=>exact⟨0,by omega,rfl,yZ,yH (by simp)⟩
 obtain⟨k,hk,rfl,hb,HT⟩:=hrel;have KMr:=yB KM hb
 by_cases hkl:k<(aBt l x.bu x.sl).length
 ·obtain⟨b,hbb,HCa⟩:=own_rate12 HV2.out hkl;subst hbb;obtain⟨yn,hyn⟩:∃yn,((aBt l x.bu x.sl)[k]).nu=yn:=⟨_,rfl⟩;obtain⟨yd,hyd⟩:∃yd,((aBt l x.bu x.sl)[k]).de=yd:=⟨_,rfl⟩;obtain⟨c,hc⟩:∃c,cmpR yn yd x.de x.nu=c:=⟨_,rfl⟩;rw[hyn,hyd]at HCa;have HC:Hid (∀w',Below wr.heap.size wr w'→b<w'.heap.size∧w'.cell? ⟨b,k*7+5,none⟩=some (.int .i64 yn)∧w'.cell? ⟨b,k*7+6,none⟩=some (.int .i64 yd)):=yH fun w' h=>HCa w' (andB hb h)
  have CC:=yH (fun w=>aJu yn yd x.de x.nu w);rw[hc]at CC;have HCE:Hid (∀h:k<(aBt l x.bu x.sl).length,cmpR ((aBt l x.bu x.sl)[k]'h).nu ((aBt l x.bu x.sl)[k]'h).de x.de x.nu=c):=yH (fun h=>by rw[hyn,hyd,hc]);have KM:=KMr;have BB:=yH hb;have HK:=yH hkl;have k0:(0:Int)≤(k:Int):=by omega
  have k1:(k:Int)<((aBt l x.bu x.sl).length:Int):=by omega
  clear HCa hyn hyd hc KMr hb hkl
  by_cases hcc:c≤0
  ·have q1:decide (c≤0)=true:=by simpa using hcc
   clear hcc;go_wp2_with fail
   refine aA3 (by kernel_rfl) [(.int .i64 k),(.slice (some ⟨b,0,none⟩) (aBt l x.bu x.sl).length cap),(.int .i64 (aBt l x.bu x.sl).length),(.bool true),(.bool true),(.slice (some ⟨b,0,none⟩) (aBt l x.bu x.sl).length cap),(.int .i64 k),(.pointer (some ⟨b,k*7,none⟩)),(.pointer (some ⟨b,k*7+5,none⟩)),(.agg #[.int .i64 yn,.int .i64 yd]),(.agg #[.int .i64 x.de,.int .i64 x.nu]),(.int .i64 c),(.bool true),(.bool true)]
    (fun w'=>Below wr.heap.size wr w') (by kernel_rfl) yZ.drew ?_
   intro af haf;simp only[yG,List.append_eq,List.cons_append,List.nil_append,puts,Act.put,yA,yC,yF,yD,yE]at haf;subst haf;refine⟨?_,?_⟩
   ·simp only[yG,List.append_eq,List.cons_append,List.nil_append,aBe];refine⟨?z1,?z2,?z3,?z4,?z5,?z7,?z8,?z9,?z10,?_,?_,?_,?z11,?z6,trivial⟩
    case z1|z2|z3|z4|z5|z6=>
     intro w' hS;refine yO rfl ?_;have HS:=yH hS;clear hS;go_wp2_with fail;all_goals first|exact HS|exact⟨rfl,HS⟩|rfl|exact⟨by omega,HS.out⟩
    case z7|z8|z9|z10|z11=>
     intro w' hS;refine OpTo.wanted ?_ ?_
     kernel_rfl
     have HS:=yH hS;clear hS;go_wp2_with fail;all_goals first|exact HS|exact⟨rfl,HS⟩|rfl|exact⟨by omega,HS.out⟩
    ·intro w' hS;refine OpTo.wanted ?_ ?_
     kernel_rfl
     obtain⟨hl0,e5,e6⟩:=HC.out w' hS;have HS:=yH hS;clear hS;go_wp2_with fail;all_goals first|exact HS|exact⟨rfl,HS⟩|rfl|exact⟨by omega,HS.out⟩
    ·intro w' hS;refine OpTo.wanted ?_ ?_
     kernel_rfl
     have d0_0:=(KM.out.below hS KM.out.lt).cell 0;have d0_1:=(KM.out.below hS KM.out.lt).cell 1;simp at d0_0 d0_1;have HS:=yH hS;clear hS;go_wp2_with fail;all_goals first|exact HS|exact⟨rfl,HS⟩|rfl|exact⟨by omega,HS.out⟩
    intro w' hS;refine OpTo.wanted ?_ ?_
    kernel_rfl
    have HS:=yH hS;clear hS;go_wp2_with fail;refine(CC.out w').mono ?_;rintro e w'' ⟨rfl,hb2⟩;exact⟨rfl,andB HS.out hb2⟩
   intro w' hS;have BB2:=yT BB hS;clear hS;go_wp2_with fail
   exact⟨⟨k+1,by have:=HK.out;omega,by go_num,BB2.out,yH (fun y hy=>by
    rw[List.take_succ_eq_append_getElem HK.out,List.mem_append,List.mem_singleton]at hy;rcases hy with hy|rfl
    ·exact HT.out y hy
    rw[HCE.out HK.out];exact q1)⟩,by simp[intOf];have:=HK.out;omega⟩
  have q1:decide (c≤0)=false:=by simpa using hcc
  have HTW:Hid (agO l x.sl x.bu x.nu x.de=(aBt l x.bu x.sl).take k):=yH (aKi HT.out (fun h=>by rw[HCE.out h];exact q1)).1;clear hcc;go_wp2_with fail
  refine aA3 (by kernel_rfl) [(.int .i64 k),(.slice (some ⟨b,0,none⟩) (aBt l x.bu x.sl).length cap),(.int .i64 (aBt l x.bu x.sl).length),(.bool true),(.bool true),(.slice (some ⟨b,0,none⟩) (aBt l x.bu x.sl).length cap),(.int .i64 k),(.pointer (some ⟨b,k*7,none⟩)),(.pointer (some ⟨b,k*7+5,none⟩)),(.agg #[.int .i64 yn,.int .i64 yd]),(.agg #[.int .i64 x.de,.int .i64 x.nu]),(.int .i64 c),(.bool false),(.bool false)]
   (fun w'=>Below wr.heap.size wr w') (by kernel_rfl) yZ.drew ?_
  intro af haf;simp only[yG,List.append_eq,List.cons_append,List.nil_append,puts,Act.put,yA,yC,yF,yD,yE]at haf;subst haf;refine⟨?_,?_⟩
  ·simp only[yG,List.append_eq,List.cons_append,List.nil_append,aBe];refine⟨?z12,?z13,?z14,?z15,?z16,?z18,?z19,?z20,?z21,?_,?_,?_,?z22,?z17,trivial⟩
   case z12|z13|z14|z15|z16|z17=>
    intro w' hS;refine yO rfl ?_;have HS:=yH hS;clear hS;go_wp2_with fail;all_goals first|exact HS|exact⟨rfl,HS⟩|rfl|exact⟨by omega,HS.out⟩
   case z18|z19|z20|z21|z22=>
    intro w' hS;refine OpTo.wanted ?_ ?_
    kernel_rfl
    have HS:=yH hS;clear hS;go_wp2_with fail;all_goals first|exact HS|exact⟨rfl,HS⟩|rfl|exact⟨by omega,HS.out⟩
   ·intro w' hS;refine OpTo.wanted ?_ ?_
    kernel_rfl
    obtain⟨hl0,e5,e6⟩:=HC.out w' hS;have HS:=yH hS;clear hS;go_wp2_with fail;all_goals first|exact HS|exact⟨rfl,HS⟩|rfl|exact⟨by omega,HS.out⟩
   ·intro w' hS;refine OpTo.wanted ?_ ?_
    kernel_rfl
    have d0_0:=(KM.out.below hS KM.out.lt).cell 0;have d0_1:=(KM.out.below hS KM.out.lt).cell 1;simp at d0_0 d0_1;have HS:=yH hS;clear hS;go_wp2_with fail;all_goals first|exact HS|exact⟨rfl,HS⟩|rfl|exact⟨by omega,HS.out⟩
   intro w' hS;refine OpTo.wanted ?_ ?_
   kernel_rfl
   have HS:=yH hS;clear hS;go_wp2_with fail;refine(CC.out w').mono ?_;rintro e w'' ⟨rfl,hb2⟩;exact⟨rfl,andB HS.out hb2⟩
  intro w' hS;have BB2:=yH (B4.out.trans ((BB.out.trans (hS.mono BB.out.size)).mono B4.out.size));have OT2:=yH (owns_take (aAc HV2.out (BB.out.trans (hS.mono BB.out.size))) (show k≤(aBt l x.bu x.sl).length by omega));clear hS;have kc:(k:Int)≤(cap:Int):=by omega
  go_wp2_with fail;go_ret;refine⟨_,rfl,?_,BB2.out⟩;rw[HTW.out,List.length_take,Nat.min_eq_left (by have:=HK.out;omega),←aOh _ _ (by have:=HK.out;omega)];exact OT2.out
 have hkn:k=(aBt l x.bu x.sl).length:=by omega
 subst hkn
 have HTW:Hid (agO l x.sl x.bu x.nu x.de=aBt l x.bu x.sl):=yH (by
  have:=(aKi HT.out (fun h=>absurd h (by omega))).1;rw[List.take_of_length_le yL]at this;exact this)
 have BB:=yH hb;clear hb KMr;go_wp2_with fail
 refine aA3 (by kernel_rfl) [(.int .i64 (aBt l x.bu x.sl).length),(.slice ao (aBt l x.bu x.sl).length cap),(.int .i64 (aBt l x.bu x.sl).length),(.bool false),(.bool false),undef,undef,undef,undef,undef,undef,undef,undef,(.bool false)]
  (fun w'=>Below wr.heap.size wr w') (by kernel_rfl) yZ.drew ?_
 intro af haf;simp only[yG,List.append_eq,List.cons_append,List.nil_append,puts,Act.put,yA,yC,yF,yD,yE]at haf;subst haf;refine⟨?_,?_⟩
 ·simp only[yG,List.append_eq,List.cons_append,List.nil_append,aBe];refine⟨?z23,?z24,?z25,?z26,?z27,?z29,?z30,?z31,?z32,?z33,?z34,?z35,?z36,?z28,trivial⟩
  case z23|z24|z25|z26|z27|z28=>
   intro w' hS;refine yO rfl ?_;have HS:=yH hS;clear hS;go_wp2_with fail;all_goals first|exact HS|exact⟨rfl,HS⟩|rfl|exact⟨by omega,HS.out⟩
  case z29|z30|z31|z32|z33|z34|z35|z36=>
   intro w' hS;refine pAD (by kernel_rfl) rfl hS
 intro w' hS;have BB2:=yH (B4.out.trans ((BB.out.trans (hS.mono BB.out.size)).mono B4.out.size));have OT2:=yH (aAc HV2.out (BB.out.trans (hS.mono BB.out.size)));clear hS;go_wp2_with fail;go_ret;refine⟨_,rfl,?_,BB2.out⟩;rw[HTW.out];exact OT2.out
end Go.Proofs.YtaeocliklpcgmaaGreat
