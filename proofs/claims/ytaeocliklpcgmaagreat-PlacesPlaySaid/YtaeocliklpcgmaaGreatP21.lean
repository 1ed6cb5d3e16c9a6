/- Pieces of one proof. -/
import Derived.Test.YtaeocliklpcgmaaGreatP19
import Derived.Test.YtaeocliklpcgmaaGreatP20
import Derived.Maps.AppendAt
import Derived.Deep.RegionLaw
set_option linter.all false
set_option maxHeartbeats 64000000
set_option maxRecDepth 100000
namespace Go.Proofs.YtaeocliklpcgmaaGreat
open Go.RowKit
theorem same4_any{w:World}{base base2 g r:Nat}{l:List Of}{N:Int}{vl vm:Value}(hP:PB w base g l N vl)(hR:RefB w base2 r l N vm)(hl:l.length≤1000):
  Calls Tryz.prog 54 #[.pointer (some ⟨g,0,none⟩),.pointer (some ⟨r,0,none⟩)] w (yR w (.bool true)):=by
 have HP:=yH hP;have HR:=yH hR;have HN:Hid (l.length≤1000):=yH hl;have HN2:Hid (l.length≤100000000):=yH (by omega);obtain⟨al,cl,hvl,_⟩:=aAd hR.row;clear hP hR hl hvl;go_enter Tryz.func54,Tryz.ntmps54;go_wp2_with fail
 have hlasts:∀q∈([(1,(fun v w=>aC0 w v 7 l.length (aAa l)))]:List (Nat×(Value→World→Prop))),Lasts q.2:=by
  intro q hq;simp only[yI,yJ,or_false]at hq;rcases hq with rfl
  exact fun v w w' h k=>h.below k
 have HL:=yH hlasts;clear hlasts
 refine aD3 (by kernel_rfl) (fun s:Nat→Value=>[(.pointer (some ⟨g,0,none⟩)),s 1,(.pointer (some ⟨r,0,none⟩)),(.pointer (some ⟨r,0,none⟩)),(.pointer (some ⟨r,0,none⟩)),vm,(.bool true),(.bool true),(.pointer (some ⟨g,0,none⟩)),(.int .u64 N),(.pointer (some ⟨r,0,none⟩)),(.pointer (some ⟨r,0,none⟩)),(.pointer (some ⟨r,1,none⟩)),(.int .u64 N),(.bool true),(.bool true),(.bool true)])
  (Got w [(1,(fun v w=>aC0 w v 7 l.length (aAa l)))]) (by kernel_rfl) (fun _=>undef) (Got.start _ _ _) ?_
 intro AF hAF;simp only[yG,puts,Act.put,yA,yC,yF,yD,yE]at hAF;have hAF2:_=AF:=funext hAF;subst hAF2;clear hAF;refine⟨?_,?_⟩
 ·simp only[yG,aL4];refine⟨?_,?_,?_,?_,?_,?_,?_,?_,?_,?_,?_,?_,?_,?_,?_,?_,?_,trivial⟩
  ·intro s D w' hD hW hC hI;refine .inl ⟨s,fun _ _ _=>rfl,?_⟩;with_reducible refine yO rfl ?_
   have HS:=yH (hI.step HL.out yZ (k:=0) (by intro q hq;simp only[yI,yJ,or_false]at hq;rcases hq with rfl <;> first|exact(show(1:Nat)≠0 by decide)));clear hI hC hW hD;go_wp2_with fail;all_goals first|exact HS|exact⟨rfl,HS⟩|rfl
  ·intro s D w' hD hW hC hI;have hS:=hI.below;have HI:=yH hI;have HCl:=yH hC;have HD:=yH hD;have HC:=yH (pall_any (HP.out.below hS) HN.out);refine .inr ?_;with_reducible refine aD2.plain ?_ ?_
   exact rfl;clear hI hS hC hW hD;go_wp2_with fail;refine HC.out.mono ?_;rintro e w'' ⟨v,rfl,hv,hb2⟩;refine⟨v,rfl,updV s 1 v,aJ8 _ (fun s:Nat→Value=>[(.pointer (some ⟨g,0,none⟩)),s 1,(.pointer (some ⟨r,0,none⟩)),(.pointer (some ⟨r,0,none⟩)),(.pointer (some ⟨r,0,none⟩)),vm,(.bool true),(.bool true),(.pointer (some ⟨g,0,none⟩)),(.int .u64 N),(.pointer (some ⟨r,0,none⟩)),(.pointer (some ⟨r,0,none⟩)),(.pointer (some ⟨r,1,none⟩)),(.int .u64 N),(.bool true),(.bool true),(.bool true)]) s 1 v HCl.out HD.out ?_,rfl,HI.out.put HL.out hb2 ?_⟩
   ·intro j hj
    match j,hj with
    | 0,_=>exact .inr rfl
    | 1,_=>exact .inl (.inl rfl)
    | 2,_=>exact .inr rfl
    | 3,_=>exact .inr rfl
    | 4,_=>exact .inr rfl
    | 5,_=>exact .inr rfl
    | 6,_=>exact .inr rfl
    | 7,_=>exact .inr rfl
    | 8,_=>exact .inr rfl
    | 9,_=>exact .inr rfl
    | 10,_=>exact .inr rfl
    | 11,_=>exact .inr rfl
    | 12,_=>exact .inr rfl
    | 13,_=>exact .inr rfl
    | 14,_=>exact .inr rfl
    | 15,_=>exact .inr rfl
    | 16,_=>exact .inr rfl
    | j+17,_=>exact .inr rfl
   intro q hq he;simp only[yI,yJ,or_false]at hq;rcases hq with rfl <;> first|exact hv.reads HN2.out
  ·intro s D w' hD hW hC hI;refine .inl ⟨s,fun _ _ _=>rfl,?_⟩;with_reducible refine yO rfl ?_
   have HS:=yH (hI.step HL.out yZ (k:=2) (by intro q hq;simp only[yI,yJ,or_false]at hq;rcases hq with rfl <;> first|exact(show(1:Nat)≠2 by decide)));clear hI hC hW hD;go_wp2_with fail;all_goals first|exact HS|exact⟨rfl,HS⟩|rfl
  ·intro s D w' hD hW hC hI;refine .inl ⟨s,fun _ _ _=>rfl,?_⟩;with_reducible refine yO rfl ?_
   have HS:=yH (hI.step HL.out yZ (k:=3) (by intro q hq;simp only[yI,yJ,or_false]at hq;rcases hq with rfl <;> first|exact(show(1:Nat)≠3 by decide)));clear hI hC hW hD;go_wp2_with fail;all_goals first|exact HS|exact⟨rfl,HS⟩|rfl
  ·intro s D w' hD hW hC hI;refine .inl ⟨s,fun _ _ _=>rfl,?_⟩;with_reducible refine yO rfl ?_
   have HS:=yH (hI.step HL.out yZ (k:=4) (by intro q hq;simp only[yI,yJ,or_false]at hq;rcases hq with rfl <;> first|exact(show(1:Nat)≠4 by decide)));clear hI hC hW hD;go_wp2_with fail;all_goals first|exact HS|exact⟨rfl,HS⟩|rfl
  ·intro s D w' hD hW hC hI;have hS:=hI.below;refine .inl ⟨s,fun _ _ _=>rfl,?_⟩;with_reducible refine yO rfl ?_
   have d0:=(HR.out.blk.below hS HR.out.blk.lt).cell 0;simp at d0;have HS:=yH (hI.step HL.out yZ (k:=5) (by intro q hq;simp only[yI,yJ,or_false]at hq;rcases hq with rfl <;> first|exact(show(1:Nat)≠5 by decide)));clear hI hS hC hW hD;go_wp2_with fail;all_goals first|exact HS|exact⟨rfl,HS⟩|rfl
  ·intro s D w' hD hW hC hI;have hS:=hI.below;refine .inl ⟨s,fun _ _ _=>rfl,?_⟩;with_reducible refine yO rfl ?_
   have hP1:D 1=true:=aA8 hC hW (by kernel_rfl);have hq1:=hI.at (1,(fun v w=>aC0 w v 7 l.length (aAa l))) (by simp) hP1;dsimp only at hq1;have HI:=yH hI;have HC:=yH ((by have q:=aL9 hq1 (pAF (aAc HR.out.row hS) HN2.out);rw[decide_eq_true rfl]at q;exact q:Calls Tryz.prog 20 #[s 1,vm] w' fun e w''=>e=.returned (.bool true)∧Below w'.heap.size w' w''));clear hI hS hC hW hD hP1 hq1;go_wp2_with fail;refine HC.out.mono ?_;rintro e w'' ⟨rfl,hb2⟩;exact⟨rfl,HI.out.step HL.out hb2 (by intro q hq;simp only[yI,yJ,or_false]at hq;rcases hq with rfl <;> first|exact(show(1:Nat)≠6 by decide))⟩
  ·intro s D w' hD hW hC hI;refine .inl ⟨s,fun _ _ _=>rfl,?_⟩;with_reducible refine yO rfl ?_
   have HS:=yH (hI.step HL.out yZ (k:=7) (by intro q hq;simp only[yI,yJ,or_false]at hq;rcases hq with rfl <;> first|exact(show(1:Nat)≠7 by decide)));clear hI hC hW hD;go_wp2_with fail;all_goals first|exact HS|exact⟨rfl,HS⟩|rfl
  ·intro s D w' hD hW hC hI;refine .inl ⟨s,fun _ _ _=>rfl,?_⟩;with_reducible refine OpTo.wanted ?_ ?_
   kernel_rfl
   have HS:=yH (hI.step HL.out yZ (k:=8) (by intro q hq;simp only[yI,yJ,or_false]at hq;rcases hq with rfl <;> first|exact(show(1:Nat)≠8 by decide)));clear hI hC hW hD;go_wp2_with fail;all_goals first|exact HS|exact⟨rfl,HS⟩|rfl
  ·intro s D w' hD hW hC hI;have hS:=hI.below;refine .inl ⟨s,fun _ _ _=>rfl,?_⟩;with_reducible refine OpTo.wanted ?_ ?_
   kernel_rfl
   have HI:=yH hI;have HC:=yH ((aIm (HP.out.below hS).blk).mono (fun e w'' ⟨h1,h2⟩=>⟨h1,by rw[←h2];exact yZ⟩:∀e w'',_→(e=.returned (.int .u64 N)∧Below w'.heap.size w' w'')));clear hI hS hC hW hD;go_wp2_with fail;refine HC.out.mono ?_;rintro e w'' ⟨rfl,hb2⟩;exact⟨rfl,HI.out.step HL.out hb2 (by intro q hq;simp only[yI,yJ,or_false]at hq;rcases hq with rfl <;> first|exact(show(1:Nat)≠9 by decide))⟩
  ·intro s D w' hD hW hC hI;refine .inl ⟨s,fun _ _ _=>rfl,?_⟩;with_reducible refine OpTo.wanted ?_ ?_
   kernel_rfl
   have HS:=yH (hI.step HL.out yZ (k:=10) (by intro q hq;simp only[yI,yJ,or_false]at hq;rcases hq with rfl <;> first|exact(show(1:Nat)≠10 by decide)));clear hI hC hW hD;go_wp2_with fail;all_goals first|exact HS|exact⟨rfl,HS⟩|rfl
  ·intro s D w' hD hW hC hI;refine .inl ⟨s,fun _ _ _=>rfl,?_⟩;with_reducible refine OpTo.wanted ?_ ?_
   kernel_rfl
   have HS:=yH (hI.step HL.out yZ (k:=11) (by intro q hq;simp only[yI,yJ,or_false]at hq;rcases hq with rfl <;> first|exact(show(1:Nat)≠11 by decide)));clear hI hC hW hD;go_wp2_with fail;all_goals first|exact HS|exact⟨rfl,HS⟩|rfl
  ·intro s D w' hD hW hC hI;refine .inl ⟨s,fun _ _ _=>rfl,?_⟩;with_reducible refine OpTo.wanted ?_ ?_
   kernel_rfl
   have HS:=yH (hI.step HL.out yZ (k:=12) (by intro q hq;simp only[yI,yJ,or_false]at hq;rcases hq with rfl <;> first|exact(show(1:Nat)≠12 by decide)));clear hI hC hW hD;go_wp2_with fail;all_goals first|exact HS|exact⟨rfl,HS⟩|rfl
  ·intro s D w' hD hW hC hI;have hS:=hI.below;refine .inl ⟨s,fun _ _ _=>rfl,?_⟩;with_reducible refine OpTo.wanted ?_ ?_
   kernel_rfl
   have d0:=(HR.out.blk.below hS HR.out.blk.lt).cell 1;simp at d0;have HS:=yH (hI.step HL.out yZ (k:=13) (by intro q hq;simp only[yI,yJ,or_false]at hq;rcases hq with rfl <;> first|exact(show(1:Nat)≠13 by decide)));clear hI hS hC hW hD;go_wp2_with fail;all_goals first|exact HS|exact⟨rfl,HS⟩|rfl
  ·intro s D w' hD hW hC hI;refine .inl ⟨s,fun _ _ _=>rfl,?_⟩;with_reducible refine OpTo.wanted ?_ ?_
   kernel_rfl
   have HS:=yH (hI.step HL.out yZ (k:=14) (by intro q hq;simp only[yI,yJ,or_false]at hq;rcases hq with rfl <;> first|exact(show(1:Nat)≠14 by decide)));clear hI hC hW hD;go_wp2_with fail;all_goals first|exact HS|exact⟨rfl,HS⟩|rfl
  ·intro s D w' hD hW hC hI;refine .inl ⟨s,fun _ _ _=>rfl,?_⟩;with_reducible refine yO rfl ?_
   have HS:=yH (hI.step HL.out yZ (k:=15) (by intro q hq;simp only[yI,yJ,or_false]at hq;rcases hq with rfl <;> first|exact(show(1:Nat)≠15 by decide)));clear hI hC hW hD;go_wp2_with fail;all_goals first|exact HS|exact⟨rfl,HS⟩|rfl
  intro s D w' hD hW hC hI;refine .inl ⟨s,fun _ _ _=>rfl,?_⟩;with_reducible refine yO rfl ?_
  have HS:=yH (hI.step HL.out yZ (k:=16) (by intro q hq;simp only[yI,yJ,or_false]at hq;rcases hq with rfl <;> first|exact(show(1:Nat)≠16 by decide)));clear hI hC hW hD;go_wp2_with fail;all_goals first|exact HS|exact⟨rfl,HS⟩|rfl
 intro s D w2 hall hI;have B2:=yH hI.below;clear hI hall;dsimp only;go_wp2_with fail;go_ret;exact⟨rfl,B2.out⟩
theorem aJb{w:World}{G M gb rl rb b1 b2 b3:Nat}{ps:List Int}{ls:List Ln}{l:List Of}{N:Int}{vp vl vb vm:Value}(hL:LedM w G M ps ls)(hI:LInv ps ls)(hP:PB w b1 gb l N vb)(hR:RefL w b2 rl ps ls vp vl)(hB:RefB w b3 rb l N vm)(hp:ps.length≤100000)(hl:l.length≤1000):
  Calls Tryz.prog 14 #[.agg #[.pointer (some ⟨G,0,none⟩),.pointer (some ⟨gb,0,none⟩)],.agg #[.pointer (some ⟨rl,0,none⟩),.pointer (some ⟨rb,0,none⟩)]] w (yR w (.bool true)):=by
 have hg1:(w.alloc (.cells #[.pointer (some ⟨G,0,none⟩),.pointer (some ⟨gb,0,none⟩)] 31)).heap.size=w.heap.size+1:=by simp
 have c1:=(Below.refl w.heap.size w).alloc yL (.cells #[.pointer (some ⟨G,0,none⟩),.pointer (some ⟨gb,0,none⟩)] 31);have k1:=pAA w #[.pointer (some ⟨G,0,none⟩),.pointer (some ⟨gb,0,none⟩)] 31;generalize hW1:w.alloc (.cells #[.pointer (some ⟨G,0,none⟩),.pointer (some ⟨gb,0,none⟩)] 31)=W1 at *;have c2:=(Below.refl W1.heap.size W1).alloc yL (.cells #[.pointer (some ⟨rl,0,none⟩),.pointer (some ⟨rb,0,none⟩)] 36);have k2:=pAA W1 #[.pointer (some ⟨rl,0,none⟩),.pointer (some ⟨rb,0,none⟩)] 36;rw[hg1]at k2;generalize hW2:W1.alloc (.cells #[.pointer (some ⟨rl,0,none⟩),.pointer (some ⟨rb,0,none⟩)] 36)=W2 at *;have HW1:=yH hW1;have HW2:=yH hW2;have KX:=yH (k1.below c2 k1.lt);have KY:=yH k2;have B1:=yH (c1.trans (c2.mono c1.size));have C1:=yH (aSj ((hL.below c1).below c2) hI ((hR.below c1).below c2) hp);have HP:=yH ((hP.below c1).below c2);have HB:=yH ((hB.below c1).below c2);have H3:=yH hl;clear hL hI hP hR hB hp hl c1 c2 k1 k2 hW1 hW2 hg1;go_enter Tryz.func14,Tryz.ntmps14
 go_upto_region 1 with fail
 rw[HW1.out,HW2.out];have e0:=KX.out.cell 0;have e1:=KX.out.cell 1;have f0:=KY.out.cell 0;have f1:=KY.out.cell 1;simp at e0 e1 f0 f1;go_wp2_with fail;refine C1.out.mono ?_;rintro e w1 ⟨rfl,b1⟩;have KX1:=yB KX b1;have KY1:=yB KY b1;have C2:=yH (same4_any (HP.out.below b1) (HB.out.below b1) H3.out);have BB:=yT B1 b1;clear e0 e1 f0 f1 b1 KX KY HP HB C1;have e0:=KX1.out.cell 0;have e1:=KX1.out.cell 1;have f0:=KY1.out.cell 0;have f1:=KY1.out.cell 1;simp at e0 e1 f0 f1;go_wp2_with fail;refine C2.out.mono ?_;rintro e w2 ⟨rfl,b2⟩;have B3:=yT BB b2;clear b2 C2 e0 e1 f0 f1;go_wp2_with fail;go_ret;exact⟨rfl,B3.out⟩
theorem aSk{w:World}(a1 a2:Option Addr)(n1 n2 c1 c2:Nat)(h1:n1≤maxLen)(h2:n2≤maxLen):
  Calls Tryz.prog 7 #[.agg #[.slice a1 n1 c1,.slice a2 n2 c2]] w fun e w'=>e=.returned (.bool (decide (120<n1∨40<n2)))∧Below w.heap.size w w':=by
 have b1:=(Below.refl w.heap.size w).alloc yL (.cells #[.slice a1 n1 c1,.slice a2 n2 c2] 25);have k1:=pAA w #[.slice a1 n1 c1,.slice a2 n2 c2] 25;have KX:=yH k1;have B1:=yH b1;clear b1 k1;unfold maxLen at h1 h2;go_enter Tryz.func7,Tryz.ntmps7
 go_upto_region 1 with fail
 generalize w.alloc (.cells #[.slice a1 n1 c1,.slice a2 n2 c2] 25)=W at *;have e0:=KX.out.cell 0;have e1:=KX.out.cell 1;simp at e0 e1
 by_cases q1:120<n1
 ·have q2:decide ((120:Int)<(n1:Int))=true:=by simp;omega
  have Q3:Hid (decide (120<n1∨40<n2)=true):=yH (by rw[decide_eq_true_iff];omega);go_wp2_with fail;go_ret;exact⟨by rw[Q3.out];rfl,B1.out⟩
 have q2:decide ((120:Int)<(n1:Int))=false:=by simp;omega
 have Q3:Hid (decide (120<n1∨40<n2)=decide ((40:Int)<(n2:Int))):=yH (by rw[decide_eq_decide];omega);go_wp2_with fail;go_ret;exact⟨by rw[Q3.out];rfl,B1.out⟩
def okO(nx:Int)(l:List Of):Prop:=l.Pairwise (fun x y=>x.se<y.se)∧∀x∈l,x.may∧x.se≠0∧x.se<nx
theorem aHg{P:Program}{w w':World}{o:Oper}{a:Act}{K:Act→World→Prop}{Q:Exit→Act→World→Prop}(y x:Operand)(t:TypeId){u v v':Value}
  (ho:o.op=.call { callee:=.builtin .append,args:=#[y,x],argTypes:=#[t,t] })(hy:a.eval y=u)(hx:a.eval x=v)
  (hr:(Builtin.append_ #[t,t] o.type #[u,v]).run P w=.ok v' w')(h:K (a.put o.dst v') w'):o.wp P a w K Q:=by
 unfold Oper.wp execOp;simp only[ho,resolve,invoke,builtin,Sem.run_bind,Sem.run_pure,Result.andThen_ok,List.map_toArray,List.map_cons,List.map_nil,hy,hx,hr];exact h
def aLw(W:World)(gb base:Nat)(l:List Of)(x:Of)(s:Value×Nat×Value)(D:Nat→Bool)(w:World):Prop:=
 (D 11=false→Below W.heap.size W w∧(D 5=true→D 8=false→w.ownsRow W.heap.size 48 7 s.1 l.length (aAa l))∧(D 7=true→D 8=false→W.heap.size≤s.2.1∧Blk w s.2.1 #[.int .u64 x.se,.int .u8 x.ow,.int .u8 x.sl,.int .u8 x.bu,.int .i64 x.lf,.int .i64 x.nu,.int .i64 x.de] 48)∧(D 8=true→w.ownsRow W.heap.size 48 7 s.2.2 (l.length+1) (aAa (l++[x]))))∧
 (D 11=true→w.ownsRow W.heap.size 48 7 s.2.2 (l.length+1) (aAa (l++[x]))∧Blk w gb #[s.2.2,.int .u64 x.se] 163∧Keep (·=gb) W w)
theorem aLw.step{W:World}{gb base:Nat}{l:List Of}{x:Of}{s:Value×Nat×Value}{D:Nat→Bool}{w:World}(h:aLw W gb base l x s D w)(hN:D 11=false){k:Nat}(h5:k≠5)(h7:k≠7)(h8:k≠8)(h11:k≠11):aLw W gb base l x s (ins k D) w:=by
 have e5:ins k D 5=D 5:=by simp[ins,Ne.symm h5]
 have e7:ins k D 7=D 7:=by simp[ins,Ne.symm h7]
 have e8:ins k D 8=D 8:=by simp[ins,Ne.symm h8]
 have e11:ins k D 11=D 11:=by simp[ins,Ne.symm h11]
 unfold aLw;rw[e5,e7,e8,e11];exact h
theorem place_r1{W:World}{gb R:Nat}{x:Of}{vl:Value}(HG:Hid (Blk W gb #[vl,.int .u64 x.se] 163))(KR:Hid (Blk W R #[.int .i64 x.nu,.int .i64 x.de] 46)){Q:Exit→Act→World→Prop}{c5 c6 c7 c8 c9 c10 c12 c13 c14 c15 c16 c17 c18 c19 c20 c21 c22 c23 c24 c25 c26 c27 c28 c29 c30 c31 c32 c33 c34 c35 c36 c37 c38 c39 c40 c41 c42 c43 c44 c45 c46 c47 c48 c49 c50 c51 c52 c53 c54 c55 c56 c57 c58 c59 c60:Value}
  (hq:∀a w6,W.heap.size≤a→Blk w6 a #[.int .u64 x.se,.int .u8 x.ow,.int .u8 x.sl,.int .u8 x.bu,.int .i64 x.lf,.int .i64 x.nu,.int .i64 x.de] 48→Below W.heap.size W w6→Q .normal ⟨#[(.pointer (some ⟨gb,0,none⟩)),(.int .u8 x.ow),(.int .u8 x.sl),(.int .u8 x.bu),(.int .i64 x.lf),c5,c6,c7,c8,c9,c10,(.pointer (some ⟨R,0,none⟩)),c12,c13,(.pointer (some ⟨a,0,none⟩)),(.pointer (some ⟨gb,0,none⟩)),(.pointer (some ⟨gb,0,none⟩)),(.pointer (some ⟨gb,1,none⟩)),(.int .u64 x.se),(.int .u8 x.ow),(.int .u8 x.sl),(.int .u8 x.bu),(.int .i64 x.lf),(.agg #[.int .i64 x.nu,.int .i64 x.de]),(.agg #[.int .u64 x.se,.int .u8 x.ow,.int .u8 x.sl,.int .u8 x.bu,.int .i64 x.lf,.int .i64 x.nu,.int .i64 x.de]),c25,c26,c27,c28,c29,c30,c31,c32,c33,c34,c35,c36,c37,c38,c39,c40,c41,c42,c43,c44,c45,c46,c47,c48,c49,c50,c51,c52,c53,c54,c55,c56,c57,c58,c59,c60],[]⟩ w6):
  Code.wp Tryz.prog (((Tryz.f43.body).bind (aB9 1)).getD .skip) Q ⟨#[(.pointer (some ⟨gb,0,none⟩)),(.int .u8 x.ow),(.int .u8 x.sl),(.int .u8 x.bu),(.int .i64 x.lf),c5,c6,c7,c8,c9,c10,(.pointer (some ⟨R,0,none⟩)),c12,c13,c14,c15,c16,c17,c18,c19,c20,c21,c22,c23,c24,c25,c26,c27,c28,c29,c30,c31,c32,c33,c34,c35,c36,c37,c38,c39,c40,c41,c42,c43,c44,c45,c46,c47,c48,c49,c50,c51,c52,c53,c54,c55,c56,c57,c58,c59,c60],[]⟩ W:=by
 conv=>arg 2;whnf
 have HQ:=yH hq;clear hq
 refine aA0 (by kernel_rfl) (fun g:Nat→Nat=>[(.pointer (some ⟨gb,0,none⟩)),(.pointer (some ⟨gb,0,none⟩)),(.pointer (some ⟨gb,1,none⟩)),(.int .u64 x.se),(.int .u8 x.ow),(.int .u8 x.sl),(.int .u8 x.bu),(.int .i64 x.lf),(.agg #[.int .i64 x.nu,.int .i64 x.de]),(.agg #[.int .u64 x.se,.int .u8 x.ow,.int .u8 x.sl,.int .u8 x.bu,.int .i64 x.lf,.int .i64 x.nu,.int .i64 x.de]),(.pointer (some ⟨g 10,0,none⟩)),undef])
  (Lays W [(⟨10,11,(.cells #[.int .u64 0,.int .u8 0,.int .u8 0,.int .u8 0,.int .i64 0,.int .i64 0,.int .i64 0] 48),(.cells #[.int .u64 x.se,.int .u8 x.ow,.int .u8 x.sl,.int .u8 x.bu,.int .i64 x.lf,.int .i64 x.nu,.int .i64 x.de] 48)⟩:Spec)]) (by kernel_rfl) (fun _=>0) (Lays.start _ _ _) ?_
 intro AF hAF;simp only[yG,puts,Act.put,yA,yC,yF,yD,yE]at hAF;have hAF2:_=AF:=funext hAF;subst hAF2;clear hAF;refine⟨?_,?_⟩
 ·simp only[yG,aEb];refine⟨?_,?_,?_,?_,?_,?_,?_,?_,?_,?_,?_,?_,trivial⟩
  ·intro g D w' hD hW hC hI;refine⟨g,fun _ _ _=>rfl,?_⟩;with_reducible refine yO rfl ?_
   have HS:=yH (hI.step yZ (k:=0) (by rfl));clear hI hC hW hD;go_wp2_with fail;all_goals first|exact HS|exact⟨rfl,HS⟩|rfl
  ·intro g D w' hD hW hC hI;refine⟨g,fun _ _ _=>rfl,?_⟩;with_reducible refine yO rfl ?_
   have HS:=yH (hI.step yZ (k:=1) (by rfl));clear hI hC hW hD;go_wp2_with fail;all_goals first|exact HS|exact⟨rfl,HS⟩|rfl
  ·intro g D w' hD hW hC hI;refine⟨g,fun _ _ _=>rfl,?_⟩;with_reducible refine yO rfl ?_
   have HS:=yH (hI.step yZ (k:=2) (by rfl));clear hI hC hW hD;go_wp2_with fail;all_goals first|exact HS|exact⟨rfl,HS⟩|rfl
  ·intro g D w' hD hW hC hI;refine⟨g,fun _ _ _=>rfl,?_⟩;with_reducible refine yO rfl ?_
   have hS:=hI.below;have d0_0:=(HG.out.below hS HG.out.lt).cell 0;have d0_1:=(HG.out.below hS HG.out.lt).cell 1;simp at d0_0 d0_1;have HS:=yH (hI.step yZ (k:=3) (by rfl));clear hI hS hC hW hD;go_wp2_with fail;all_goals first|exact HS|exact⟨rfl,HS⟩|rfl
  ·intro g D w' hD hW hC hI;refine⟨g,fun _ _ _=>rfl,?_⟩;with_reducible refine yO rfl ?_
   have HS:=yH (hI.step yZ (k:=4) (by rfl));clear hI hC hW hD;go_wp2_with fail;all_goals first|exact HS|exact⟨rfl,HS⟩|rfl
  ·intro g D w' hD hW hC hI;refine⟨g,fun _ _ _=>rfl,?_⟩;with_reducible refine yO rfl ?_
   have HS:=yH (hI.step yZ (k:=5) (by rfl));clear hI hC hW hD;go_wp2_with fail;all_goals first|exact HS|exact⟨rfl,HS⟩|rfl
  ·intro g D w' hD hW hC hI;refine⟨g,fun _ _ _=>rfl,?_⟩;with_reducible refine yO rfl ?_
   have HS:=yH (hI.step yZ (k:=6) (by rfl));clear hI hC hW hD;go_wp2_with fail;all_goals first|exact HS|exact⟨rfl,HS⟩|rfl
  ·intro g D w' hD hW hC hI;refine⟨g,fun _ _ _=>rfl,?_⟩;with_reducible refine yO rfl ?_
   have HS:=yH (hI.step yZ (k:=7) (by rfl));clear hI hC hW hD;go_wp2_with fail;all_goals first|exact HS|exact⟨rfl,HS⟩|rfl
  ·intro g D w' hD hW hC hI;refine⟨g,fun _ _ _=>rfl,?_⟩;with_reducible refine yO rfl ?_
   have hS:=hI.below;have d0_0:=(KR.out.below hS KR.out.lt).cell 0;have d0_1:=(KR.out.below hS KR.out.lt).cell 1;simp at d0_0 d0_1;have HS:=yH (hI.step yZ (k:=8) (by rfl));clear hI hS hC hW hD;go_wp2_with fail;all_goals first|exact HS|exact⟨rfl,HS⟩|rfl
  ·intro g D w' hD hW hC hI;refine⟨g,fun _ _ _=>rfl,?_⟩;with_reducible refine yO rfl ?_
   have HS:=yH (hI.step yZ (k:=9) (by rfl));clear hI hC hW hD;go_wp2_with fail;all_goals first|exact HS|exact⟨rfl,HS⟩|rfl
  ·intro g D w' hD hW hC hI;have hN:D 11=false:=aBx hC hD 12 11 (by kernel_rfl);refine⟨upd g 10 w'.heap.size,aDm _ (fun g:Nat→Nat=>[(.pointer (some ⟨gb,0,none⟩)),(.pointer (some ⟨gb,0,none⟩)),(.pointer (some ⟨gb,1,none⟩)),(.int .u64 x.se),(.int .u8 x.ow),(.int .u8 x.sl),(.int .u8 x.bu),(.int .i64 x.lf),(.agg #[.int .i64 x.nu,.int .i64 x.de]),(.agg #[.int .u64 x.se,.int .u8 x.ow,.int .u8 x.sl,.int .u8 x.bu,.int .i64 x.lf,.int .i64 x.nu,.int .i64 x.de]),(.pointer (some ⟨g 10,0,none⟩)),undef]) g 10 _ 12 hC hD ?_,?_⟩
   ·intro j hj
    match j,hj with
    | 0,_=>exact .inr rfl
    | 1,_=>exact .inr rfl
    | 2,_=>exact .inr rfl
    | 3,_=>exact .inr rfl
    | 4,_=>exact .inr rfl
    | 5,_=>exact .inr rfl
    | 6,_=>exact .inr rfl
    | 7,_=>exact .inr rfl
    | 8,_=>exact .inr rfl
    | 9,_=>exact .inr rfl
    | 10,_=>exact .inl (.inl rfl)
    | 11,_=>exact .inr rfl
    | j+12,_=>exact .inr rfl
   with_reducible refine yO rfl ?_
   have HS:=yH (hI.lay (⟨10,11,(.cells #[.int .u64 0,.int .u8 0,.int .u8 0,.int .u8 0,.int .i64 0,.int .i64 0,.int .i64 0] 48),(.cells #[.int .u64 x.se,.int .u8 x.ow,.int .u8 x.sl,.int .u8 x.bu,.int .i64 x.lf,.int .i64 x.nu,.int .i64 x.de] 48)⟩:Spec) (by simp) (by rfl) (.inr hN) (by rfl) (fun s' hs' _=>List.mem_singleton.1 hs') (.cells #[.int .u64 0,.int .u8 0,.int .u8 0,.int .u8 0,.int .i64 0,.int .i64 0,.int .i64 0] 48) rfl);clear hI hC hW hD hN;go_wp2_with fail;all_goals first|exact HS|exact⟨rfl,HS⟩|rfl
  intro g D w' hD hW hC hI;have hP:D 10=true:=aBd hC hW (d:=12) (by kernel_rfl);obtain⟨hg,hk⟩:=hI.zeroed (⟨10,11,(.cells #[.int .u64 0,.int .u8 0,.int .u8 0,.int .u8 0,.int .i64 0,.int .i64 0,.int .i64 0] 48),(.cells #[.int .u64 x.se,.int .u8 x.ow,.int .u8 x.sl,.int .u8 x.bu,.int .i64 x.lf,.int .i64 x.nu,.int .i64 x.de] 48)⟩:Spec) (by simp) hP hD;refine⟨g,fun _ _ _=>rfl,?_⟩;with_reducible refine yO rfl ?_
  refine wp_store_row 48 (.tmp 14) (.tmp 24) rfl (g 10) #[.int .u64 x.se,.int .u8 x.ow,.int .u8 x.sl,.int .u8 x.bu,.int .i64 x.lf,.int .i64 x.nu,.int .i64 x.de] rfl rfl 48 _ hk (by kernel_rfl) rfl (by simp[Value.oneCell']) ⟨rfl,?_⟩;exact hI.fill (⟨10,11,(.cells #[.int .u64 0,.int .u8 0,.int .u8 0,.int .u8 0,.int .i64 0,.int .i64 0,.int .i64 0] 48),(.cells #[.int .u64 x.se,.int .u8 x.ow,.int .u8 x.sl,.int .u8 x.bu,.int .i64 x.lf,.int .i64 x.nu,.int .i64 x.de] 48)⟩:Spec) (by simp) (by rfl) (show(11:Nat)≠10 by decide) (fun s' hs' _=>List.mem_singleton.1 hs') hP (aAf _ _) (setRow_heap w' (g 10) _ _ 48 (0,0) hk)
 intro g D w6 hall hI;obtain⟨h1,h2⟩:=hI.full (⟨10,11,(.cells #[.int .u64 0,.int .u8 0,.int .u8 0,.int .u8 0,.int .i64 0,.int .i64 0,.int .i64 0] 48),(.cells #[.int .u64 x.se,.int .u8 x.ow,.int .u8 x.sl,.int .u8 x.bu,.int .i64 x.lf,.int .i64 x.nu,.int .i64 x.de] 48)⟩:Spec) (by simp) (hall 10 (by decide)) (hall 11 (by decide));exact HQ.out (g 10) w6 h1 h2 hI.below
theorem place_r6{W:World}{gb a base:Nat}{x:Of}{l:List Of}{vl:Value}(HG:Hid (RefB W base gb l x.se vl))(HA:Hid (Blk W a #[.int .u64 x.se,.int .u8 x.ow,.int .u8 x.sl,.int .u8 x.bu,.int .i64 x.lf,.int .i64 x.nu,.int .i64 x.de] 48))(hl:l.length≤1000){Q:Exit→Act→World→Prop}{c1 c2 c3 c4 c5 c6 c7 c8 c9 c10 c11 c12 c13 c15 c16 c17 c18 c19 c20 c21 c22 c23 c24 c25 c26 c27 c28 c29 c30 c31 c32 c33 c34 c35 c36 c37 c38 c39 c40 c41 c42 c43 c44 c45 c46 c47 c48 c49 c50 c51 c52 c53 c54 c55 c56 c57 c58 c59 c60:Value}
  (hq:∀s1 s2 s3 w6,w6.ownsRow W.heap.size 48 7 s3 (l.length+1) (aAa (l++[x]))→Blk w6 gb #[s3,.int .u64 x.se] 163→Keep (·=gb) W w6→Q .normal ⟨#[(.pointer (some ⟨gb,0,none⟩)),c1,c2,c3,c4,c5,c6,c7,c8,c9,c10,c11,c12,c13,(.pointer (some ⟨a,0,none⟩)),c15,c16,c17,c18,c19,c20,c21,c22,c23,c24,c25,c26,c27,c28,c29,c30,c31,c32,c33,c34,c35,c36,c37,c38,c39,c40,(.pointer (some ⟨gb,0,none⟩)),(.pointer (some ⟨gb,0,none⟩)),(.pointer (some ⟨gb,0,none⟩)),(.pointer (some ⟨gb,0,none⟩)),vl,s1,(.agg #[.int .u64 x.se,.int .u8 x.ow,.int .u8 x.sl,.int .u8 x.bu,.int .i64 x.lf,.int .i64 x.nu,.int .i64 x.de]),(.slice (some ⟨s2,0,none⟩) 1 1),s3,(.pointer (some ⟨gb,0,none⟩)),(.pointer (some ⟨gb,0,none⟩)),c52,c53,c54,c55,c56,c57,c58,c59,c60],[]⟩ w6):
  Code.wp Tryz.prog (((Tryz.f43.body).bind (aB9 6)).getD .skip) Q ⟨#[(.pointer (some ⟨gb,0,none⟩)),c1,c2,c3,c4,c5,c6,c7,c8,c9,c10,c11,c12,c13,(.pointer (some ⟨a,0,none⟩)),c15,c16,c17,c18,c19,c20,c21,c22,c23,c24,c25,c26,c27,c28,c29,c30,c31,c32,c33,c34,c35,c36,c37,c38,c39,c40,c41,c42,c43,c44,c45,c46,c47,c48,c49,c50,c51,c52,c53,c54,c55,c56,c57,c58,c59,c60],[]⟩ W:=by
 conv=>arg 2;whnf
 have HQ:=yH hq;clear hq
 refine aA0 (by kernel_rfl) (fun s:Value×Nat×Value=>[(.pointer (some ⟨gb,0,none⟩)),(.pointer (some ⟨gb,0,none⟩)),(.pointer (some ⟨gb,0,none⟩)),(.pointer (some ⟨gb,0,none⟩)),vl,s.1,(.agg #[.int .u64 x.se,.int .u8 x.ow,.int .u8 x.sl,.int .u8 x.bu,.int .i64 x.lf,.int .i64 x.nu,.int .i64 x.de]),(.slice (some ⟨s.2.1,0,none⟩) 1 1),s.2.2,(.pointer (some ⟨gb,0,none⟩)),(.pointer (some ⟨gb,0,none⟩)),undef])
  (aLw W gb base l x) (by kernel_rfl) (undef,0,undef) ⟨fun _=>⟨yZ.drew,by simp,by simp,by simp⟩,by simp⟩ ?_
 intro AF hAF;simp only[yG,puts,Act.put,yA,yC,yF,yD,yE]at hAF;have hAF2:_=AF:=funext hAF;subst hAF2;clear hAF;refine⟨?_,?_⟩
 ·simp only[yG,aEb];refine⟨?_,?_,?_,?_,?_,?_,?_,?_,?_,?_,?_,?_,trivial⟩
  ·intro s D w' hD hW hC hI;have hN:D 11=false:=aAg hC hD 11 (by kernel_rfl);refine⟨s,fun _ _ _=>rfl,?_⟩;with_reducible refine yO rfl ?_
   have HS:=yH (hI.step hN (k:=0) (by decide) (by decide) (by decide) (by decide));clear hI hC hW hD hN;go_wp2_with fail;all_goals first|exact HS|exact⟨rfl,HS⟩|rfl
  ·intro s D w' hD hW hC hI;have hN:D 11=false:=aAg hC hD 11 (by kernel_rfl);refine⟨s,fun _ _ _=>rfl,?_⟩;with_reducible refine yO rfl ?_
   have HS:=yH (hI.step hN (k:=1) (by decide) (by decide) (by decide) (by decide));clear hI hC hW hD hN;go_wp2_with fail;all_goals first|exact HS|exact⟨rfl,HS⟩|rfl
  ·intro s D w' hD hW hC hI;have hN:D 11=false:=aAg hC hD 11 (by kernel_rfl);refine⟨s,fun _ _ _=>rfl,?_⟩;with_reducible refine yO rfl ?_
   have HS:=yH (hI.step hN (k:=2) (by decide) (by decide) (by decide) (by decide));clear hI hC hW hD hN;go_wp2_with fail;all_goals first|exact HS|exact⟨rfl,HS⟩|rfl
  ·intro s D w' hD hW hC hI;have hN:D 11=false:=aAg hC hD 11 (by kernel_rfl);refine⟨s,fun _ _ _=>rfl,?_⟩;with_reducible refine yO rfl ?_
   have HS:=yH (hI.step hN (k:=3) (by decide) (by decide) (by decide) (by decide));clear hI hC hW hD hN;go_wp2_with fail;all_goals first|exact HS|exact⟨rfl,HS⟩|rfl
  ·intro s D w' hD hW hC hI;have hN:D 11=false:=aAg hC hD 11 (by kernel_rfl);refine⟨s,fun _ _ _=>rfl,?_⟩;with_reducible refine yO rfl ?_
   have HS:=yH (hI.step hN (k:=4) (by decide) (by decide) (by decide) (by decide));have hB:=(hI.1 hN).1;have d0:=(HG.out.blk.below hB HG.out.blk.lt).cell 0;simp at d0;clear hI hC hW hD hN hB;go_wp2_with fail;all_goals first|exact HS|exact⟨rfl,HS⟩|rfl
  ·intro s D w' hD hW hC hI;have hN:D 11=false:=aAg hC hD 11 (by kernel_rfl);have hN8:D 8=false:=aAg hC hD 8 (by kernel_rfl);obtain⟨q1,q2,q3,q4⟩:=hI.1 hN;obtain⟨v',w2,hrun,how,hbel⟩:=aCs (P:=Tryz.prog) (w:=w') 23 23 48 aI1 Tryz.underlying23 rfl (by decide) (by decide) base _ _ _ (aAc HG.out.row q1) (aCt l) (by omega);refine⟨(v',s.2.1,s.2.2),?_,?_⟩
   ·intro j hj hDj
    match j,hj,hDj with
    | 0,_,_=>rfl
    | 1,_,_=>rfl
    | 2,_,_=>rfl
    | 3,_,_=>rfl
    | 4,_,_=>rfl
    | 5,_,h=>simp_all
    | 6,_,_=>rfl
    | 7,_,_=>rfl
    | 8,_,_=>rfl
    | 9,_,_=>rfl
    | 10,_,_=>rfl
    | 11,_,_=>rfl
    | j+12,_,_=>rfl
   with_reducible refine yO rfl ?_
   refine aEz (.tmp 45) 23 rfl rfl hrun ⟨rfl,?_⟩;refine⟨fun _=>⟨q1.trans (hbel.mono q1.size),fun _ _=>aA4 how q1.size,fun d e=>?_,fun d=>?_⟩,fun d=>?_⟩
   ·have:=q3 (by simpa [ins]using d) (by simpa [ins]using e);exact⟨this.1,this.2.below hbel this.2.lt⟩
   ·simp[ins,hN8]at d
   simp[ins,hN]at d
  ·intro s D w' hD hW hC hI;have hN:D 11=false:=aAg hC hD 11 (by kernel_rfl);refine⟨s,fun _ _ _=>rfl,?_⟩;with_reducible refine yO rfl ?_
   have HS:=yH (hI.step hN (k:=6) (by decide) (by decide) (by decide) (by decide));have hB:=(hI.1 hN).1;have a0:=(HA.out.below hB HA.out.lt).cell 0;have a1:=(HA.out.below hB HA.out.lt).cell 1;have a2:=(HA.out.below hB HA.out.lt).cell 2;have a3:=(HA.out.below hB HA.out.lt).cell 3;have a4:=(HA.out.below hB HA.out.lt).cell 4;have a5:=(HA.out.below hB HA.out.lt).cell 5;have a6:=(HA.out.below hB HA.out.lt).cell 6;simp at a0 a1 a2 a3 a4 a5 a6;clear hI hC hW hD hN hB;go_wp2_with fail;all_goals first|exact HS|exact⟨rfl,HS⟩|rfl
  ·intro s D w' hD hW hC hI;have hN:D 11=false:=aAg hC hD 11 (by kernel_rfl);have hN8:D 8=false:=aAg hC hD 8 (by kernel_rfl);obtain⟨q1,q2,q3,q4⟩:=hI.1 hN;have bx:=(Below.refl w'.heap.size w').alloc yL (.cells #[.int .u64 x.se,.int .u8 x.ow,.int .u8 x.sl,.int .u8 x.bu,.int .i64 x.lf,.int .i64 x.nu,.int .i64 x.de] 48);refine⟨(s.1,w'.heap.size,s.2.2),?_,?_⟩
   ·intro j hj hDj
    match j,hj,hDj with
    | 0,_,_=>rfl
    | 1,_,_=>rfl
    | 2,_,_=>rfl
    | 3,_,_=>rfl
    | 4,_,_=>rfl
    | 5,_,_=>rfl
    | 6,_,_=>rfl
    | 7,_,h=>simp_all
    | 8,_,_=>rfl
    | 9,_,_=>rfl
    | 10,_,_=>rfl
    | 11,_,_=>rfl
    | j+12,_,_=>rfl
   with_reducible refine yO rfl ?_
   have HS:Hid (aLw W gb base l x (s.1,w'.heap.size,s.2.2) (ins 7 D) (w'.alloc (.cells #[.int .u64 x.se,.int .u8 x.ow,.int .u8 x.sl,.int .u8 x.bu,.int .i64 x.lf,.int .i64 x.nu,.int .i64 x.de] 48))):=yH ⟨fun _=>⟨q1.trans (bx.mono q1.size),fun d e=>aAc (q2 (by simpa [ins]using d) (by simpa [ins]using e)) bx,fun _ _=>⟨q1.size,pAA _ _ _⟩,fun d=>by simp[ins,hN8]at d⟩,fun d=>by simp[ins,hN]at d⟩;clear hI hC hW hD hN hN8 q1 q2 q3 q4 bx;go_wp2_with fail;all_goals first|exact HS|exact⟨rfl,HS⟩|rfl
  ·intro s D w' hD hW hC hI;have hN:D 11=false:=aAg hC hD 11 (by kernel_rfl);have hP5:D 5=true:=aA8 hC hW (by kernel_rfl);have hP7:D 7=true:=aA8 hC hW (by kernel_rfl);obtain⟨q1,q2,q3,q4⟩:=hI.1 hN;have hr:=q2 hP5 hD;obtain⟨hge,hblk⟩:=q3 hP7 hD;obtain⟨i0,hi,hz0,hz1,hz2⟩:=info_parts aI1
   obtain⟨v',w2,hrun,how,hgr,_⟩:=run_append_own (P:=Tryz.prog) (w:=w') W.heap.size 23 23 48 i0 noOf.val 7 40 Tryz.underlying23 hi hz0 hz1 hz2 rfl (by decide) s.1 l.length (aAa l) hr ⟨s.2.1,0,none⟩ 1 1 x.vals rfl (fun j u hj=>by
    have:=hblk.cell j;rw[Go.WideShapes.add_plain,Nat.zero_add,this]
    match j,hj with
    | 0,hj=>simpa [Of.vals]using hj
    | 1,hj=>simpa [Of.vals]using hj
    | 2,hj=>simpa [Of.vals]using hj
    | 3,hj=>simpa [Of.vals]using hj
    | 4,hj=>simpa [Of.vals]using hj
    | 5,hj=>simpa [Of.vals]using hj
    | 6,hj=>simpa [Of.vals]using hj
    | j+7,hj=>simp[Of.vals]at hj) (by intro u hu;simp[Of.vals]at hu;rcases hu with rfl|rfl|rfl|rfl|rfl|rfl|rfl <;> rfl) (by unfold maxLen;omega) (by omega) q1.size
   rw[←aFu,←aAt]at how;refine⟨(s.1,s.2.1,v'),?_,?_⟩
   ·intro j hj hDj
    match j,hj,hDj with
    | 0,_,_=>rfl
    | 1,_,_=>rfl
    | 2,_,_=>rfl
    | 3,_,_=>rfl
    | 4,_,_=>rfl
    | 5,_,_=>rfl
    | 6,_,_=>rfl
    | 7,_,_=>rfl
    | 8,_,h=>simp_all
    | 9,_,_=>rfl
    | 10,_,_=>rfl
    | 11,_,_=>rfl
    | j+12,_,_=>rfl
   with_reducible refine yO rfl ?_
   refine aHg (.tmp 46) (.tmp 48) 23 rfl rfl rfl hrun ⟨rfl,?_⟩;have hbl:Below W.heap.size W w2:=q1.grown hgr q1.size (fun k hk=>(aAe hr hk).1);refine⟨fun _=>⟨hbl,fun _ e=>by simp[ins]at e,fun _ e=>by simp[ins]at e,fun _=>how⟩,fun d=>by simp[ins,hN]at d⟩
  ·intro s D w' hD hW hC hI;have hN:D 11=false:=aAg hC hD 11 (by kernel_rfl);refine⟨s,fun _ _ _=>rfl,?_⟩;with_reducible refine yO rfl ?_
   have HS:=yH (hI.step hN (k:=9) (by decide) (by decide) (by decide) (by decide));clear hI hC hW hD hN;go_wp2_with fail;all_goals first|exact HS|exact⟨rfl,HS⟩|rfl
  ·intro s D w' hD hW hC hI;have hN:D 11=false:=aAg hC hD 11 (by kernel_rfl);refine⟨s,fun _ _ _=>rfl,?_⟩;with_reducible refine yO rfl ?_
   have HS:=yH (hI.step hN (k:=10) (by decide) (by decide) (by decide) (by decide));clear hI hC hW hD hN;go_wp2_with fail;all_goals first|exact HS|exact⟨rfl,HS⟩|rfl
  intro s D w' hD hW hC hI;have hP8:D 8=true:=aA8 hC hW (by kernel_rfl);obtain⟨q1,q2,q3,q4⟩:=hI.1 hD;have how:=q4 hP8;obtain⟨ao,cap,hv,_⟩:=aAd how;refine⟨s,fun _ _ _=>rfl,?_⟩;with_reducible refine yO rfl ?_
  have hG:=HG.out.blk.below q1 HG.out.blk.lt;have kk:Keep (·=gb) w' (w'.setCell ⟨gb,0,none⟩ s.2.2):=Keep.setCell (S:=(·=gb)) (Keep.refl _ _) (p:=⟨gb,0,none⟩) (.inl rfl) _;have HS:Hid (aLw W gb base l x s (ins 11 D) (w'.setCell ⟨gb,0,none⟩ s.2.2)):=yH ⟨fun d=>by simp[ins]at d,fun _=>⟨aAl how kk (fun b hb e=>by have:=(aAe how hb).1;have:=HG.out.blk.lt;omega),by simpa using hG.set 0 s.2.2,(pAE q1).trans kk⟩⟩;have hf:=hG.frozen;have d0:=hG.cell 0;simp at d0;clear hI hC hW hD q1 q2 q3 q4 how kk hG hP8;obtain⟨s1,s2,s3⟩:=s;dsimp only at hv HS ⊢;subst hv;go_wp2_with fail;all_goals first|exact HS|exact⟨rfl,HS⟩|rfl
 intro s D w6 hall hI;obtain⟨h1,h2,h3⟩:=hI.2 (hall 11 (by decide));exact HQ.out s.1 s.2.1 s.2.2 w6 h1 h2 h3
def aBw(l:List Of)(x:Of):Int:=if ¬x.may then 1 else if l.length=32∨x.se=18446744073709551615 then 9 else 0
def aCo(l:List Of)(x:Of):Int:=if aBw l x=0 then x.se else 0
def aB8(l:List Of)(x:Of):List Of:=if aBw l x=0 then l++[x]else l
def aBo(l:List Of)(x:Of):Int:=if aBw l x=0 then x.se+1 else x.se
theorem aM8{w:World}{base gb:Nat}{l:List Of}{x:Of}{vl:Value}(h:RefB w base gb l x.se vl)(hlen:l.length≤32)(h0:0≤x.se)(h1:x.se≤18446744073709551615):
  Calls Tryz.prog 43 #[.pointer (some ⟨gb,0,none⟩),.int .u8 x.ow,.int .u8 x.sl,.int .u8 x.bu,.int .i64 x.lf,.agg #[.int .i64 x.nu,.int .i64 x.de]] w fun e w'=>e=.returned (.tuple #[.int .u64 (aCo l x),.int .i64 (aBw l x)])∧∃vl',RefB w' base gb (aB8 l x) (aBo l x) vl'∧Keep (·=gb) w w':=by
 have bw:=(Below.refl w.heap.size w).alloc yL (.cells #[.int .i64 x.nu,.int .i64 x.de] 46);have H1:=yH (h.below bw);have KR:=yH (pAA w #[.int .i64 x.nu,.int .i64 x.de] 46);have B1:=yH bw;have HG:=yH (h.below bw).blk;clear bw h;go_enter Tryz.func43,Tryz.ntmps43;go_wp2_with fail;generalize w.alloc (.cells #[.int .i64 x.nu,.int .i64 x.de] 46)=W at *;refine place_r1 HG KR ?_;intro a w2 ha hA b2;have H2:=yH (H1.out.below b2);have B2:=yT B1 b2;have HA:=yH hA;have HGa:Hid (gb<a):=yH (by have:=HG.out.lt;omega);have CM:=yH (omay_any x w2);have a0:=hA.cell 0;have a1:=hA.cell 1;have a2:=hA.cell 2;have a3:=hA.cell 3;have a4:=hA.cell 4;have a5:=hA.cell 5;have a6:=hA.cell 6;simp at a0 a1 a2 a3 a4 a5 a6;clear ha hA b2 H1 B1 HG KR
 by_cases hm:¬x.may
 ·have e1:aBw l x=1:=by unfold aBw;rw[if_pos hm]
  have e2:aCo l x=0:=by unfold aCo;rw[e1];rfl
  have e3:aB8 l x=l:=by unfold aB8;rw[e1];rfl
  have e4:aBo l x=x.se:=by unfold aBo;rw[e1];rfl
  have E:=yH (And.intro e1 (And.intro e2 (And.intro e3 e4)));rw[decide_eq_false hm]at CM;clear e1 e2 e3 e4 hm;go_wp2_with fail;refine CM.out.mono ?_;rintro e w3 ⟨rfl,b3⟩;have H3:=yH (H2.out.below b3);have B3:=yT B2 b3;clear b3 H2 B2 CM a0 a1 a2 a3 a4 a5 a6;go_wp2_with fail;refine bodyPost_ret (v:=.tuple #[.int .u64 0,.int .i64 1]) (by simp[results,Tryz.results43,go_sem]) rfl ?_;rw[E.out.1,E.out.2.1,E.out.2.2.1,E.out.2.2.2];exact⟨rfl,vl,H3.out,pAE B3.out⟩
 have hm:=Decidable.not_not.1 hm;rw[decide_eq_true hm]at CM;go_wp2_with fail;refine CM.out.mono ?_;rintro e w3 ⟨rfl,b3⟩;have H3:=yH (H2.out.below b3);have B3:=yT B2 b3;have HA3:=yB HA b3;clear b3 H2 B2 CM a0 a1 a2 a3 a4 a5 a6 HA;have g0:=H3.out.blk.cell 0;have g1:=H3.out.blk.cell 1;simp at g0 g1;obtain⟨ao,cap,hv,_⟩:=aAd H3.out.row;subst hv
 by_cases hf:l.length=32∨x.se=18446744073709551615
 ·have e1:aBw l x=9:=by unfold aBw;rw[if_neg (fun k=>k hm),if_pos hf]
  have e2:aCo l x=0:=by unfold aCo;rw[e1];rfl
  have e3:aB8 l x=l:=by unfold aB8;rw[e1];rfl
  have e4:aBo l x=x.se:=by unfold aBo;rw[e1];rfl
  have E:=yH (And.intro e1 (And.intro e2 (And.intro e3 e4)));clear e1 e2 e3 e4
  by_cases hl:l.length=32
  ·have c1:((l.length:Int)==32)=true:=by simp;omega
   clear hf hl;go_wp2_with fail;refine bodyPost_ret (v:=.tuple #[.int .u64 0,.int .i64 9]) (by simp[results,Tryz.results43,go_sem]) rfl ?_;rw[E.out.1,E.out.2.1,E.out.2.2.1,E.out.2.2.2];exact⟨rfl,_,H3.out,pAE B3.out⟩
  have hx:x.se=18446744073709551615:=by
                        rcases hf with hf|hf;· exact absurd hf hl
                        exact hf
  have c1:((l.length:Int)==32)=false:=by simp;omega
  have c2:(x.se==18446744073709551615)=true:=by simpa using hx
  clear hf hl hx h0 h1;go_wp2_with fail;refine bodyPost_ret (v:=.tuple #[.int .u64 0,.int .i64 9]) (by simp[results,Tryz.results43,go_sem]) rfl ?_;rw[E.out.1,E.out.2.1,E.out.2.2.1,E.out.2.2.2];exact⟨rfl,_,H3.out,pAE B3.out⟩
 have e1:aBw l x=0:=by unfold aBw;rw[if_neg (fun k=>k hm),if_neg hf]
 have e2:aCo l x=x.se:=by unfold aCo;rw[if_pos e1]
 have e3:aB8 l x=l++[x]:=by unfold aB8;rw[if_pos e1]
 have e4:aBo l x=x.se+1:=by unfold aBo;rw[if_pos e1]
 have E:=yH (And.intro e1 (And.intro e2 (And.intro e3 e4)));have c1:((l.length:Int)==32)=false:=by simp;omega
 have c2:(x.se==18446744073709551615)=false:=by simp;omega
 have h2:x.se≤18446744073709551614:=by omega
 clear e1 e2 e3 e4 hf hm;go_wp2_with fail;refine place_r6 H3 HA3 (by omega) ?_;intro s1 s2 s3 w4 hrow hblk hk;have R4:=yH hrow;have K4:=yH hk;have G4:=yH hblk;have HA4:=yH (HA3.out.keep hk (fun e=>by have:=HGa.out;omega));have hgs:=H3.out.ge;clear hrow hblk hk g0 g1;have f0:=G4.out.cell 0;have f1:=G4.out.cell 1;have ff:=G4.out.frozen;simp at f0 f1;have kk:Keep (·=gb) w4 (w4.setCell ⟨gb,1,none⟩ (.int .u64 (x.se+1))):=Keep.setCell (S:=(·=gb)) (Keep.refl _ _) (p:=⟨gb,1,none⟩) (.inl rfl) _;have HA5:=yH (HA4.out.keep kk (fun e=>by have:=HGa.out;omega));have a0:=HA5.out.cell 0;simp at a0;have G5:=yH (G4.out.set 1 (.int .u64 (x.se+1)));have KE:=yH (((pAE (S:=(·=gb)) B3.out).trans K4.out).trans kk);have RE:=yH (aAl R4.out kk (fun b hb e=>by have:=(aAe R4.out hb).1;have:=H3.out.blk.lt;omega));clear kk;go_wp2_with fail;refine bodyPost_ret (v:=.tuple #[.int .u64 x.se,.int .i64 0]) (by simp[results,Tryz.results43,go_sem]) rfl ?_;rw[E.out.1,E.out.2.1,E.out.2.2.1,E.out.2.2.2];refine⟨rfl,s3,⟨?_,hgs,?_⟩,KE.out⟩
 ·simpa using G5.out
 have:=RE.out;rw[List.length_append];exact aA4 this (by have:=H3.out.blk.lt;omega)
theorem aGp{P:Program}{ops:Array Oper}{o:Oper}{a:Act}{w:World}{K:Act→World→Prop}{Q:Exit→Act→World→Prop}{E:Prop}
  (hg:o.guard=none)(s x:Operand)(t:TypeId)(hop:o.op=Op.call { callee:=Callee.builtin Builtin.append,args:=#[s,x],argTypes:=#[t,t] })
  (base:Nat)(e:TypeId){z:Value}(ht:P.underlying t=some (.slice e))(hz0:z.cells.size=7)(hi:(P.info? e).map (fun i=>(i.zero,i.size,i.bytes))=some (some z,7,40))(v:Value)(l:List Of)(hs:a.eval s=v)(hown:w.ownsRow base e 7 v l.length (aAa l))
  (g c:Nat)(y:Of)(hx:a.eval x=.slice (some ⟨g,0,none⟩) 1 c)(hy:Blk w g #[.int .u64 y.se,.int .u8 y.ow,.int .u8 y.sl,.int .u8 y.bu,.int .i64 y.lf,.int .i64 y.nu,.int .i64 y.de] e)(hlen:l.length≤100000)(hbase:base≤w.heap.size)
  (hK:∀v' w',w'.ownsRow base e 7 v' (l++[y]).length (aAa (l++[y]))→w.grownBy w' v.ownBlock→(v'.ownBlock=v.ownBlock∨v'.ownBlock=some w.heap.size)→K (a.put o.dst v') w'):
  if Region.wanted o (yielded ops a.tmps)=true then Oper.wp P o a w K Q else E:=by
 have hw:Region.wanted o (yielded ops a.tmps)=true:=by simp[Region.wanted,hg]
 rw[if_pos hw];obtain⟨i0,hi1,hi2,hi3,hi4⟩:=info_parts hi
 obtain⟨v',w',hr,h2,h3,_,h5⟩:=run_append_own_at (P:=P) w base t o.type e i0 z 7 40 ht hi1 hi2 hi3 hi4 hz0 (by decide) v l.length (aAa l) hown ⟨g,0,none⟩ 1 c y.vals rfl (fun j u hj=>by
   have:=hy.cell j;rw[Go.WideShapes.add_plain,Nat.zero_add,this]
   match j,hj with
   | 0,hj=>simpa [Of.vals]using hj
   | 1,hj=>simpa [Of.vals]using hj
   | 2,hj=>simpa [Of.vals]using hj
   | 3,hj=>simpa [Of.vals]using hj
   | 4,hj=>simpa [Of.vals]using hj
   | 5,hj=>simpa [Of.vals]using hj
   | 6,hj=>simpa [Of.vals]using hj
   | j+7,hj=>simp[Of.vals]at hj) (by intro u hu;simp[Of.vals]at hu;rcases hu with rfl|rfl|rfl|rfl|rfl|rfl|rfl <;> rfl) (by unfold maxLen;omega) (by omega) hbase
 rw[←aFu,←aAt]at h2;refine aHg s x t hop hs hx hr ?_;exact hK v' w' (by rw[List.length_append];exact h2) h3 h5
theorem BInv.place{l:List Of}{x:Of}(h:BInv l x.se):BInv (aB8 l x) (aBo l x):=by
 unfold aB8 aBo
 by_cases e:aBw l x=0
 ·rw[if_pos e,if_pos e];unfold aBw at e;split at e
  ·simp at e
  rename_i hm;have hm:=Decidable.not_not.1 hm;split at e
  ·simp at e
  rename_i h2;have:=h.len;have:=h.n1;have:=h.n2;have hl:l.length≠32:=fun k=>h2 (.inl k)
  have hs:x.se≠18446744073709551615:=fun k=>h2 (.inr k)
  refine⟨fun y hy=>?_,?_,fun y hy=>?_,by rw[List.length_append,List.length_singleton];omega,by omega,by omega⟩
  ·rcases List.mem_append.1 hy with hy|hy
   ·exact h.may y hy
   rw[List.mem_singleton]at hy;rw[hy];exact hm
  ·rw[List.pairwise_append];refine⟨h.rise,by simp,fun a ha b hb=>?_⟩;rw[List.mem_singleton]at hb;rw[hb];exact(h.bd a ha).2
  rcases List.mem_append.1 hy with hy|hy
  ·have:=h.bd y hy;omega
  rw[List.mem_singleton]at hy;rw[hy];omega
 rw[if_neg e,if_neg e];exact h
theorem PB.setN{w:World}{base g:Nat}{l:List Of}{N:Int}{vl:Value}(h:PB w base g l N vl)(M:Int):PB (w.setCell ⟨g,1,none⟩ (.int .u64 M)) base g l M vl:=by
 have k2:Keep (·=g) w (w.setCell ⟨g,1,none⟩ (.int .u64 M)):=Keep.setCell (S:=(·=g)) (Keep.refl _ _) (p:=⟨g,1,none⟩) (.inl rfl) _;exact⟨by simpa using h.blk.set 1 (.int .u64 M),h.ge,aAl h.row k2 (fun b hb e=>h.apart b hb e)⟩
theorem appended{W w':World}{base g cap:Nat}{ao:Option Addr}{l:List Of}{x:Of}{N:Int}{c:Obj}{v':Value}(h:PB W base g l N (.slice ao l.length cap))(ho:w'.ownsRow base 129 7 v' (l++[x]).length (aAa (l++[x])))
  (hgr:(W.drew.alloc c).grownBy w' (Value.ownBlock (.slice ao l.length cap)))(hat:v'.ownBlock=Value.ownBlock (.slice ao l.length cap)∨v'.ownBlock=some (W.drew.alloc c).heap.size):
  Blk w' g #[.slice ao l.length cap,.int .u64 N] 63∧(PB (w'.setCell ⟨g,0,none⟩ v') base g (l++[x]) N v'∧(Keep (Foot g (.slice ao l.length cap)) W (w'.setCell ⟨g,0,none⟩ v')∧aEt W (.slice ao l.length cap) v')∧
   ∀{a:Nat} {cs:Array Value} {t:TypeId},Blk W a cs t→(¬Foot g (.slice ao l.length cap) a)→Blk (w'.setCell ⟨g,0,none⟩ v') a cs t):=by
 have hB:Blk w' g #[.slice ao l.length cap,.int .u64 N] 63:=Blk.grown ((h.blk.drew).alloc _) hgr (fun e=>(h.apart _ e) rfl);have k2:Keep (·=g) w' (w'.setCell ⟨g,0,none⟩ v'):=Keep.setCell (S:=(·=g)) (Keep.refl _ _) (p:=⟨g,0,none⟩) (.inl rfl) _;have k1:Keep (Foot g (.slice ao l.length cap)) W w':=((Keep.refl _ W).drew.alloc _).grown hgr (fun k hk=>.inl (.inr hk));have hgl:=h.blk.lt;have k3:=k1.trans (k2.mono fun k _ hk=>.inl hk);refine⟨hB,⟨by simpa using hB.set 0 v',h.ge,aAl ho k2 ?_⟩,⟨k3,?_⟩,fun ha hf=>ha.keep k3 hf⟩
 ·intro b hb e;rcases hat with q|q
  ·rw[hb]at q;exact h.apart b q.symm e
  rw[hb]at q;cases q;rw[←e]at hgl;simp at hgl;omega
 intro b hb;rcases hat with q|q
 ·exact .inl (by rw[←q];exact hb)
 rw[hb]at q;cases q;exact .inr (by simp)
theorem pplace_r1{W:World}{R:Nat}{x:Of}{pv:Value}(HN:Hid (∀w',Below W.heap.size W w'→Calls Tryz.prog 27 #[pv] w' fun e w''=>e=.returned (.int .u64 x.se)∧w'=w''))(KR:Hid (Blk W R #[.int .i64 x.nu,.int .i64 x.de] 46)){Q:Exit→Act→World→Prop}{c5 c6 c7 c8 c9 c10 c12 c13 c14 c15 c16 c17 c18 c19 c20 c21 c22 c23 c24 c25 c26 c27 c28 c29 c30 c31 c32 c33 c34 c35 c36 c37 c38 c39 c40 c41 c42 c43 c44 c45 c46 c47 c48 c49 c50 c51 c52 c53 c54 c55 c56 c57 c58 c59 c60 c61:Value}
  (hq:∀a w6,W.heap.size≤a→Blk w6 a #[.int .u64 x.se,.int .u8 x.ow,.int .u8 x.sl,.int .u8 x.bu,.int .i64 x.lf,.int .i64 x.nu,.int .i64 x.de] 129→Below W.heap.size W w6→Q .normal ⟨#[pv,(.int .u8 x.ow),(.int .u8 x.sl),(.int .u8 x.bu),(.int .i64 x.lf),c5,c6,c7,c8,c9,c10,(.pointer (some ⟨R,0,none⟩)),c12,c13,(.pointer (some ⟨a,0,none⟩)),pv,(.int .u64 x.se),(.int .u8 x.ow),(.int .u8 x.sl),(.int .u8 x.bu),(.int .i64 x.lf),(.agg #[.int .i64 x.nu,.int .i64 x.de]),(.agg #[.int .u64 x.se,.int .u8 x.ow,.int .u8 x.sl,.int .u8 x.bu,.int .i64 x.lf,.int .i64 x.nu,.int .i64 x.de]),c23,c24,c25,c26,c27,c28,c29,c30,c31,c32,c33,c34,c35,c36,c37,c38,c39,c40,c41,c42,c43,c44,c45,c46,c47,c48,c49,c50,c51,c52,c53,c54,c55,c56,c57,c58,c59,c60,c61],[]⟩ w6):
  Code.wp Tryz.prog (((Tryz.f36.body).bind (aB9 1)).getD .skip) Q ⟨#[pv,(.int .u8 x.ow),(.int .u8 x.sl),(.int .u8 x.bu),(.int .i64 x.lf),c5,c6,c7,c8,c9,c10,(.pointer (some ⟨R,0,none⟩)),c12,c13,c14,c15,c16,c17,c18,c19,c20,c21,c22,c23,c24,c25,c26,c27,c28,c29,c30,c31,c32,c33,c34,c35,c36,c37,c38,c39,c40,c41,c42,c43,c44,c45,c46,c47,c48,c49,c50,c51,c52,c53,c54,c55,c56,c57,c58,c59,c60,c61],[]⟩ W:=by
 conv=>arg 2;whnf
 have HQ:=yH hq;clear hq
 refine aA0 (by kernel_rfl) (fun g:Nat→Nat=>[pv,(.int .u64 x.se),(.int .u8 x.ow),(.int .u8 x.sl),(.int .u8 x.bu),(.int .i64 x.lf),(.agg #[.int .i64 x.nu,.int .i64 x.de]),(.agg #[.int .u64 x.se,.int .u8 x.ow,.int .u8 x.sl,.int .u8 x.bu,.int .i64 x.lf,.int .i64 x.nu,.int .i64 x.de]),(.pointer (some ⟨g 8,0,none⟩)),undef])
  (Lays W [(⟨8,9,(.cells #[.int .u64 0,.int .u8 0,.int .u8 0,.int .u8 0,.int .i64 0,.int .i64 0,.int .i64 0] 129),(.cells #[.int .u64 x.se,.int .u8 x.ow,.int .u8 x.sl,.int .u8 x.bu,.int .i64 x.lf,.int .i64 x.nu,.int .i64 x.de] 129)⟩:Spec)]) (by kernel_rfl) (fun _=>0) (Lays.start _ _ _) ?_
 intro AF hAF;simp only[yG,puts,Act.put,yA,yC,yF,yD,yE]at hAF;have hAF2:_=AF:=funext hAF;subst hAF2;clear hAF;refine⟨?_,?_⟩
 ·simp only[yG,aEb];refine⟨?_,?_,?_,?_,?_,?_,?_,?_,?_,?_,trivial⟩
  ·intro g D w' hD hW hC hI;refine⟨g,fun _ _ _=>rfl,?_⟩;with_reducible refine yO rfl ?_
   have HS:=yH (hI.step yZ (k:=0) (by rfl));clear hI hC hW hD;go_wp2_with fail;all_goals first|exact HS|exact⟨rfl,HS⟩|rfl
  ·intro g D w' hD hW hC hI;refine⟨g,fun _ _ _=>rfl,?_⟩;with_reducible refine yO rfl ?_
   have hS:=hI.below;have HI:=yH hI;have HC:=yH (HN.out w' hS);clear hI hS hC hW hD;go_wp2_with fail;refine HC.out.mono ?_;rintro e w'' ⟨rfl,rfl⟩;exact⟨rfl,HI.out.step yZ (by rfl)⟩
  ·intro g D w' hD hW hC hI;refine⟨g,fun _ _ _=>rfl,?_⟩;with_reducible refine yO rfl ?_
   have HS:=yH (hI.step yZ (k:=2) (by rfl));clear hI hC hW hD;go_wp2_with fail;all_goals first|exact HS|exact⟨rfl,HS⟩|rfl
  ·intro g D w' hD hW hC hI;refine⟨g,fun _ _ _=>rfl,?_⟩;with_reducible refine yO rfl ?_
   have HS:=yH (hI.step yZ (k:=3) (by rfl));clear hI hC hW hD;go_wp2_with fail;all_goals first|exact HS|exact⟨rfl,HS⟩|rfl
  ·intro g D w' hD hW hC hI;refine⟨g,fun _ _ _=>rfl,?_⟩;with_reducible refine yO rfl ?_
   have HS:=yH (hI.step yZ (k:=4) (by rfl));clear hI hC hW hD;go_wp2_with fail;all_goals first|exact HS|exact⟨rfl,HS⟩|rfl
  ·intro g D w' hD hW hC hI;refine⟨g,fun _ _ _=>rfl,?_⟩;with_reducible refine yO rfl ?_
   have HS:=yH (hI.step yZ (k:=5) (by rfl));clear hI hC hW hD;go_wp2_with fail;all_goals first|exact HS|exact⟨rfl,HS⟩|rfl
  ·intro g D w' hD hW hC hI;refine⟨g,fun _ _ _=>rfl,?_⟩;with_reducible refine yO rfl ?_
   have hS:=hI.below;have d0_0:=(KR.out.below hS KR.out.lt).cell 0;have d0_1:=(KR.out.below hS KR.out.lt).cell 1;simp at d0_0 d0_1;have HS:=yH (hI.step yZ (k:=6) (by rfl));clear hI hS hC hW hD;go_wp2_with fail;all_goals first|exact HS|exact⟨rfl,HS⟩|rfl
  ·intro g D w' hD hW hC hI;refine⟨g,fun _ _ _=>rfl,?_⟩;with_reducible refine yO rfl ?_
   have HS:=yH (hI.step yZ (k:=7) (by rfl));clear hI hC hW hD;go_wp2_with fail;all_goals first|exact HS|exact⟨rfl,HS⟩|rfl
  ·intro g D w' hD hW hC hI;have hN:D 9=false:=aBx hC hD 12 9 (by kernel_rfl);refine⟨upd g 8 w'.heap.size,aDm _ (fun g:Nat→Nat=>[pv,(.int .u64 x.se),(.int .u8 x.ow),(.int .u8 x.sl),(.int .u8 x.bu),(.int .i64 x.lf),(.agg #[.int .i64 x.nu,.int .i64 x.de]),(.agg #[.int .u64 x.se,.int .u8 x.ow,.int .u8 x.sl,.int .u8 x.bu,.int .i64 x.lf,.int .i64 x.nu,.int .i64 x.de]),(.pointer (some ⟨g 8,0,none⟩)),undef]) g 8 _ 12 hC hD ?_,?_⟩
   ·intro j hj
    match j,hj with
    | 0,_=>exact .inr rfl
    | 1,_=>exact .inr rfl
    | 2,_=>exact .inr rfl
    | 3,_=>exact .inr rfl
    | 4,_=>exact .inr rfl
    | 5,_=>exact .inr rfl
    | 6,_=>exact .inr rfl
    | 7,_=>exact .inr rfl
    | 8,_=>exact .inl (.inl rfl)
    | 9,_=>exact .inr rfl
    | j+10,_=>exact .inr rfl
   with_reducible refine yO rfl ?_
   have HS:=yH (hI.lay (⟨8,9,(.cells #[.int .u64 0,.int .u8 0,.int .u8 0,.int .u8 0,.int .i64 0,.int .i64 0,.int .i64 0] 129),(.cells #[.int .u64 x.se,.int .u8 x.ow,.int .u8 x.sl,.int .u8 x.bu,.int .i64 x.lf,.int .i64 x.nu,.int .i64 x.de] 129)⟩:Spec) (by simp) (by rfl) (.inr hN) (by rfl) (fun s' hs' _=>List.mem_singleton.1 hs') (.cells #[.int .u64 0,.int .u8 0,.int .u8 0,.int .u8 0,.int .i64 0,.int .i64 0,.int .i64 0] 129) rfl);clear hI hC hW hD hN;go_wp2_with fail;all_goals first|exact HS|exact⟨rfl,HS⟩|rfl
  intro g D w' hD hW hC hI;have hP:D 8=true:=aBd hC hW (d:=12) (by kernel_rfl);obtain⟨hg,hk⟩:=hI.zeroed (⟨8,9,(.cells #[.int .u64 0,.int .u8 0,.int .u8 0,.int .u8 0,.int .i64 0,.int .i64 0,.int .i64 0] 129),(.cells #[.int .u64 x.se,.int .u8 x.ow,.int .u8 x.sl,.int .u8 x.bu,.int .i64 x.lf,.int .i64 x.nu,.int .i64 x.de] 129)⟩:Spec) (by simp) hP hD;refine⟨g,fun _ _ _=>rfl,?_⟩;with_reducible refine yO rfl ?_
  refine wp_store_row 129 (.tmp 14) (.tmp 22) rfl (g 8) #[.int .u64 x.se,.int .u8 x.ow,.int .u8 x.sl,.int .u8 x.bu,.int .i64 x.lf,.int .i64 x.nu,.int .i64 x.de] rfl rfl 129 _ hk (by kernel_rfl) rfl (by simp[Value.oneCell']) ⟨rfl,?_⟩;exact hI.fill (⟨8,9,(.cells #[.int .u64 0,.int .u8 0,.int .u8 0,.int .u8 0,.int .i64 0,.int .i64 0,.int .i64 0] 129),(.cells #[.int .u64 x.se,.int .u8 x.ow,.int .u8 x.sl,.int .u8 x.bu,.int .i64 x.lf,.int .i64 x.nu,.int .i64 x.de] 129)⟩:Spec) (by simp) (by rfl) (show(9:Nat)≠8 by decide) (fun s' hs' _=>List.mem_singleton.1 hs') hP (aAf _ _) (setRow_heap w' (g 8) _ _ 129 (0,0) hk)
 intro g D w6 hall hI;obtain⟨h1,h2⟩:=hI.full (⟨8,9,(.cells #[.int .u64 0,.int .u8 0,.int .u8 0,.int .u8 0,.int .i64 0,.int .i64 0,.int .i64 0] 129),(.cells #[.int .u64 x.se,.int .u8 x.ow,.int .u8 x.sl,.int .u8 x.bu,.int .i64 x.lf,.int .i64 x.nu,.int .i64 x.de] 129)⟩:Spec) (by simp) (hall 8 (by decide)) (hall 9 (by decide));exact HQ.out (g 8) w6 h1 h2 hI.below
theorem aG5{w:World}{base g:Nat}{l:List Of}{x:Of}{vl:Value}(h:PB w base g l x.se vl)(hI:BInv l x.se)(hx:x.Fits):
  Calls Tryz.prog 36 #[.pointer (some ⟨g,0,none⟩),.int .u8 x.ow,.int .u8 x.sl,.int .u8 x.bu,.int .i64 x.lf,.agg #[.int .i64 x.nu,.int .i64 x.de]] w fun e w'=>e=.returned (.tuple #[.int .u64 (aCo l x),.int .i64 (aBw l x)])∧∃vl',PB w' base g (aB8 l x) (aBo l x) vl'∧Keep (Foot g vl) w w'∧aEt w vl vl':=by
 have bw:=(Below.refl w.heap.size w).alloc yL (.cells #[.int .i64 x.nu,.int .i64 x.de] 46);have H1:=yH (h.below bw);have KR:=yH (pAA w #[.int .i64 x.nu,.int .i64 x.de] 46);have B1:=yH bw;have HI:=yH hI;have HX:=yH hx;have HG:=yH (h.below bw).blk;have HL:=yH (fun b (hb:Foot g vl b)=>(h.lt hb).2);clear bw h hI hx;go_enter Tryz.func36,Tryz.ntmps36;go_wp2_with fail;generalize hWW:w.alloc (.cells #[.int .i64 x.nu,.int .i64 x.de] 46)=W at *;clear hWW;refine pplace_r1 (yH (fun w' k=>aIm (HG.out.below k HG.out.lt))) KR ?_;intro a w2 ha hA b2;have H2:=yH (H1.out.below b2);have B2:=yT B1 b2;have HA:=yH hA;have HAF:=yH (show ¬Foot g vl a from fun hf=>by have:=HL.out a hf;have:=B1.out.size;omega);have CM:=yH (aLq H2.out.blk HI.out.n1);have CY:=yH (pmay_any x w2 HX.out);have a0:=hA.cell 0;have a1:=hA.cell 1;have a2:=hA.cell 2;have a3:=hA.cell 3;have a4:=hA.cell 4;have a5:=hA.cell 5;have a6:=hA.cell 6;simp at a0 a1 a2 a3 a4 a5 a6;have hlen:=HI.out.len;clear ha hA b2 H1 B1 HG KR HL
 by_cases hm:¬x.may
 ·have e1:aBw l x=1:=by unfold aBw;rw[if_pos hm]
  have E:=yH (show aBw l x=1∧aCo l x=0∧aB8 l x=l∧aBo l x=x.se from⟨e1,by unfold aCo;rw[e1];rfl,by unfold aB8;rw[e1];rfl,by unfold aBo;rw[e1];rfl⟩);rw[decide_eq_false hm]at CY;clear e1 hm;go_wp2_with fail;refine CM.out.mono ?_;rintro e w2 ⟨rfl,rfl⟩;go_wp2_with fail;refine CY.out.mono ?_;rintro e w3 ⟨rfl,b3⟩;have H3:=yH (H2.out.below b3);have B3:=yT B2 b3;clear b3 H2 B2 CM CY a0 a1 a2 a3 a4 a5 a6;go_wp2_with fail;refine bodyPost_ret (v:=.tuple #[.int .u64 0,.int .i64 1]) (by simp[results,Tryz.results36,go_sem]) rfl ?_;rw[E.out.1,E.out.2.1,E.out.2.2.1,E.out.2.2.2];exact⟨rfl,vl,H3.out,pAE B3.out,aEt.refl _ _⟩
 have hm:=Decidable.not_not.1 hm;rw[decide_eq_true hm]at CY;obtain⟨ao,cap,hvl,hc1,hc2,_⟩:=aAd H2.out.row;subst hvl;unfold maxLen at hc2;go_wp2_with fail;refine CM.out.mono ?_;rintro e w2 ⟨rfl,rfl⟩;go_wp2_with fail;refine CY.out.mono ?_;rintro e w3 ⟨rfl,b3⟩;have HG4:=yH (H2.out.below b3);have HA4:=yB HA b3;have HA4b:=HAF;have B3:=yT B2 b3;clear b3 H2 B2 CM CY a0 a1 a2 a3 a4 a5 a6 HA HAF;have d0:=HG4.out.blk.cell 0;have a0:=HA4.out.cell 0;simp at d0 a0
 by_cases hf:l.length=32∨x.se=18446744073709551615
 ·have e1:aBw l x=9:=by unfold aBw;rw[if_neg (by simpa using hm),if_pos hf]
  have E:=yH (show aBw l x=9∧aCo l x=0∧aB8 l x=l∧aBo l x=x.se from⟨e1,by unfold aCo;rw[e1];rfl,by unfold aB8;rw[e1];rfl,by unfold aBo;rw[e1];rfl⟩);clear e1
  by_cases h32:l.length=32
  ·have q1:((l.length:Int)==32)=true:=by rw[h32];rfl
   clear hf h32;go_wp2_with fail;refine bodyPost_ret (v:=.tuple #[.int .u64 0,.int .i64 9]) (by simp[results,Tryz.results36,go_sem]) rfl ?_;rw[E.out.1,E.out.2.1,E.out.2.2.1,E.out.2.2.2];exact⟨rfl,_,HG4.out,pAE B3.out,aEt.refl _ _⟩
  have q1:((l.length:Int)==32)=false:=by simp;omega
  have hse:x.se=18446744073709551615:=by rcases hf with h|h;exact absurd h h32;exact h
  have q2:(x.se==18446744073709551615)=true:=by simpa using hse
  clear hf h32 hse;go_wp2_with fail;refine bodyPost_ret (v:=.tuple #[.int .u64 0,.int .i64 9]) (by simp[results,Tryz.results36,go_sem]) rfl ?_;rw[E.out.1,E.out.2.1,E.out.2.2.1,E.out.2.2.2];exact⟨rfl,_,HG4.out,pAE B3.out,aEt.refl _ _⟩
 have e1:aBw l x=0:=by unfold aBw;rw[if_neg (by simpa using hm),if_neg hf]
 have E:=yH (show aBw l x=0∧aCo l x=x.se∧aB8 l x=l++[x]∧aBo l x=x.se+1 from⟨e1,by unfold aCo;rw[if_pos e1],by unfold aB8;rw[if_pos e1],by unfold aBo;rw[if_pos e1]⟩);have q1:((l.length:Int)==32)=false:=by simp;omega
 have q2:(x.se==18446744073709551615)=false:=by simp;omega
 have hn:=HI.out.n2;have hn1:=HI.out.n1;have hse1:x.se+1≤18446744073709551615:=by omega
 clear e1 hf;go_wp2_with fail;clear d0 a0;generalize w3=W at *;have hgl:=HG4.out.blk.lt;have d0:=HG4.out.blk.cell 0;simp at d0;have a0:=HA4.out.cell 0;have a1:=HA4.out.cell 1;have a2:=HA4.out.cell 2;have a3:=HA4.out.cell 3;have a4:=HA4.out.cell 4;have a5:=HA4.out.cell 5;have a6:=HA4.out.cell 6;simp at a0 a1 a2 a3 a4 a5 a6;have hbs:=Nat.le_trans HG4.out.ge (Nat.le_of_lt hgl)
 go_region_law (refine aGp rfl (.tmp 47) (.tmp 49) 61 rfl base 129 Tryz.underlying61 rfl aIn (.slice ao l.length cap) l rfl (aAc HG4.out.row (yZ.drew.alloc yL _)) W.heap.size 1 x rfl (pAA W.drew _ _) (by omega) (by simp;omega) ?_;intro v' w' ho hgr hat;have HAP:=yH (appended HG4.out ho hgr hat);have hB:=HAP.out.1;have d1:=hB.cell 0;have f1:=hB.frozen 0;have l1:=hB.lt;simp at d1;obtain⟨ao',cap',hv',_⟩:=aAd ho;obtain⟨ln,hln⟩:∃ln,(l++[x]).length=ln:=⟨_,rfl⟩;rw[hln]at hv';subst hv';clear hln;clear ho hgr hat hB d0)
 all_goals
  have HE:=yH HAP.out.2;clear HAP d1 f1 l1;have e0:=HE.out.1.blk.cell 1;have e1:=HE.out.1.blk.lt;have e2:=HE.out.1.blk.frozen 1;have e3:=HE.out.2.2 HA4.out HA4b.out;have e4:=e3.cell 0;simp at e0 e4;clear e3;go_wp2;refine bodyPost_ret (v:=.tuple #[.int .u64 x.se,.int .i64 0]) (by simp[results,Tryz.results36,go_sem]) rfl ?_;have k3:Keep (·=g) (w'.setCell ⟨g,0,none⟩ (.slice ao' ln cap')) ((w'.setCell ⟨g,0,none⟩ (.slice ao' ln cap')).setCell ⟨g,1,none⟩ (.int .u64 (x.se+1))):=Keep.setCell (S:=(·=g)) (Keep.refl _ _) (p:=⟨g,1,none⟩) (.inl rfl) _;rw[E.out.1,E.out.2.1,E.out.2.2.1,E.out.2.2.2];exact⟨rfl,_,HE.out.1.setN _,(pAE B3.out).trans (HE.out.2.1.1.trans (k3.mono fun k _ hk=>.inl hk)),HE.out.2.1.2.of_le B3.out.size⟩
end Go.Proofs.YtaeocliklpcgmaaGreat
