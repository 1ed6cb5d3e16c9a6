/- Pieces of one proof. -/
import Derived.Test.YtojbmnbphdcjfaaGreatP25
import Derived.Test.YtojbmnbphdcjfaaGreatP26
set_option linter.all false
set_option maxHeartbeats 64000000
set_option maxRecDepth 100000
namespace Go.Proofs.YtojbmnbphdcjfaaGreat
open Go.RowKit
theorem aSf{w:World}{G M g base:Nat}{ps:List Int}{ls:List Ln}{vp vl:Value}(hL:LedM w G M ps ls)(hI:LInv ps ls)(hR:RefL w base g ps ls vp vl)(hp:ps.length≤100000):
  Calls Tryz.prog 48 #[.pointer (some ⟨G,0,none⟩),.pointer (some ⟨g,0,none⟩)] w (yR w (.bool true)):=by
 have HL2:=yH hL;have HI2:=yH hI;have HR:=yH hR;have HN:Hid (ps.length≤100000000∧ls.length≤100000000):=yH ⟨by omega,by have:=hI.len;omega⟩;have hvp:=aAd hR.p;have hvl:=aAd hR.l;obtain⟨ap,cp,hvp,_⟩:=hvp;obtain⟨al,cl,hvl,_⟩:=hvl;clear hL hI hR hp hvp hvl;go_enter Tryz.func48,Tryz.ntmps48;go_wp2_with fail
 have hlasts:∀q∈([(1,(fun v w=>aDb w v 1 ps.length (ps.map (.int .u8)))),(9,(fun v w=>aDb w v 5 ls.length (aA0 ls)))]:List (Nat×(Value→World→Prop))),Lasts q.2:=by
  intro q hq;simp only[yI,yJ,or_false]at hq;rcases hq with rfl|rfl
  ·exact fun v w w' h k=>h.below k
  exact fun v w w' h k=>h.below k
 have HL:=yH hlasts;clear hlasts
 refine aGe (by kernel_rfl) (fun s:Nat→Value=>[(.pointer (some ⟨G,0,none⟩)),s 1,(.pointer (some ⟨g,0,none⟩)),(.pointer (some ⟨g,0,none⟩)),(.pointer (some ⟨g,0,none⟩)),vp,(.bool true),(.bool true),(.pointer (some ⟨G,0,none⟩)),s 9,(.pointer (some ⟨g,0,none⟩)),(.pointer (some ⟨g,0,none⟩)),(.pointer (some ⟨g,1,none⟩)),vl,(.bool true),(.bool true),(.bool true)])
  (Got w [(1,(fun v w=>aDb w v 1 ps.length (ps.map (.int .u8)))),(9,(fun v w=>aDb w v 5 ls.length (aA0 ls)))]) (by kernel_rfl) (fun _=>undef) (Got.start _ _ _) ?_
 intro AF hAF;simp only[yG,puts,Act.put,yA,yC,yF,yD,yE]at hAF;have hAF2:_=AF:=funext hAF;subst hAF2;clear hAF;refine⟨?_,?_⟩
 ·simp only[yG,aOv];refine⟨?_,?_,?_,?_,?_,?_,?_,?_,?_,?_,?_,?_,?_,?_,?_,?_,?_,trivial⟩
  ·intro s D w' hD hW hC hI;have hS:=hI.below;refine .inl ⟨s,fun _ _ _=>rfl,?_⟩;with_reducible refine yO rfl ?_
   have HS:=yH (hI.step HL.out yZ (k:=0) (by intro q hq;simp only[yI,yJ,or_false]at hq;rcases hq with rfl|rfl <;> first|exact(show(1:Nat)≠0 by decide)|exact(show(9:Nat)≠0 by decide)));clear hI hS hC hW hD;go_wp2_with fail;all_goals first|exact HS|exact⟨rfl,HS⟩|rfl
  ·intro s D w' hD hW hC hI;have hS:=hI.below;have HI:=yH hI;have HCl:=yH hC;have HD:=yH hD;have HC:=yH (aP1 (HL2.out.below hS) HI2.out);refine .inr ?_;with_reducible refine aEu.plain ?_ ?_
   exact rfl;clear hI hS hC hW hD;go_wp2_with fail;refine HC.out.mono ?_;rintro e w'' ⟨v,rfl,hv,hb2⟩;refine⟨v,rfl,updV s 1 v,aJ7 _ (fun s:Nat→Value=>[(.pointer (some ⟨G,0,none⟩)),s 1,(.pointer (some ⟨g,0,none⟩)),(.pointer (some ⟨g,0,none⟩)),(.pointer (some ⟨g,0,none⟩)),vp,(.bool true),(.bool true),(.pointer (some ⟨G,0,none⟩)),s 9,(.pointer (some ⟨g,0,none⟩)),(.pointer (some ⟨g,0,none⟩)),(.pointer (some ⟨g,1,none⟩)),vl,(.bool true),(.bool true),(.bool true)]) s 1 v HCl.out HD.out ?_,rfl,HI.out.put HL.out hb2 ?_⟩
   ·intro j hj
    match j,hj with
    | 0,_=>exact .inr rfl
    | 1,_=>exact .inl (.inl rfl)
    | 2,_=>exact .inr rfl
    | 3,_=>exact .inr rfl
    | 4,_=>exact .inr rfl
    | 5,_=>exact .inr rfl
    | 6,_=>exact .inr rfl
    | 7,_=>exact .inr rfl
    | 8,_=>exact .inr rfl
    | 9,_=>exact .inr rfl
    | 10,_=>exact .inr rfl
    | 11,_=>exact .inr rfl
    | 12,_=>exact .inr rfl
    | 13,_=>exact .inr rfl
    | 14,_=>exact .inr rfl
    | 15,_=>exact .inr rfl
    | 16,_=>exact .inr rfl
    | j+17,_=>exact .inr rfl
   intro q hq he;simp only[yI,yJ,or_false]at hq;rcases hq with rfl|rfl <;> first|exact hv.reads HN.out.1|exact absurd (show(9:Nat)=1 from he) (by decide)
  ·intro s D w' hD hW hC hI;have hS:=hI.below;refine .inl ⟨s,fun _ _ _=>rfl,?_⟩;with_reducible refine yO rfl ?_
   have HS:=yH (hI.step HL.out yZ (k:=2) (by intro q hq;simp only[yI,yJ,or_false]at hq;rcases hq with rfl|rfl <;> first|exact(show(1:Nat)≠2 by decide)|exact(show(9:Nat)≠2 by decide)));clear hI hS hC hW hD;go_wp2_with fail;all_goals first|exact HS|exact⟨rfl,HS⟩|rfl
  ·intro s D w' hD hW hC hI;have hS:=hI.below;refine .inl ⟨s,fun _ _ _=>rfl,?_⟩;with_reducible refine yO rfl ?_
   have hl0:=yM HR.out.blk.lt hS.size;have HS:=yH (hI.step HL.out yZ (k:=3) (by intro q hq;simp only[yI,yJ,or_false]at hq;rcases hq with rfl|rfl <;> first|exact(show(1:Nat)≠3 by decide)|exact(show(9:Nat)≠3 by decide)));clear hI hS hC hW hD;go_wp2_with fail;all_goals first|exact HS|exact⟨rfl,HS⟩|rfl
  ·intro s D w' hD hW hC hI;have hS:=hI.below;refine .inl ⟨s,fun _ _ _=>rfl,?_⟩;with_reducible refine yO rfl ?_
   have hl0:=yM HR.out.blk.lt hS.size;have HS:=yH (hI.step HL.out yZ (k:=4) (by intro q hq;simp only[yI,yJ,or_false]at hq;rcases hq with rfl|rfl <;> first|exact(show(1:Nat)≠4 by decide)|exact(show(9:Nat)≠4 by decide)));clear hI hS hC hW hD;go_wp2_with fail;all_goals first|exact HS|exact⟨rfl,HS⟩|rfl
  ·intro s D w' hD hW hC hI;have hS:=hI.below;refine .inl ⟨s,fun _ _ _=>rfl,?_⟩;with_reducible refine yO rfl ?_
   have hl0:=yM HR.out.blk.lt hS.size;have d0:=(HR.out.blk.below hS HR.out.blk.lt).cell 0;simp at d0;have HS:=yH (hI.step HL.out yZ (k:=5) (by intro q hq;simp only[yI,yJ,or_false]at hq;rcases hq with rfl|rfl <;> first|exact(show(1:Nat)≠5 by decide)|exact(show(9:Nat)≠5 by decide)));clear hI hS hC hW hD;go_wp2_with fail;all_goals first|exact HS|exact⟨rfl,HS⟩|rfl
  ·intro s D w' hD hW hC hI;have hS:=hI.below;refine .inl ⟨s,fun _ _ _=>rfl,?_⟩;with_reducible refine yO rfl ?_
   have hP1:D 1=true:=aBx hC hW (by kernel_rfl);have hq1:=hI.at (1,(fun v w=>aDb w v 1 ps.length (ps.map (.int .u8)))) (by simp) hP1;dsimp only at hq1;have HI:=yH hI;have HC:=yH ((by have q:=aLu hq1 (pAF (aAc HR.out.p hS) HN.out.1);rw[decide_eq_true rfl]at q;exact q:Calls Tryz.prog 101 #[s 1,vp] w' fun e w''=>e=.returned (.bool true)∧Below w'.heap.size w' w''));clear hI hS hC hW hD hP1 hq1;go_wp2_with fail;refine HC.out.mono ?_;rintro e w'' ⟨rfl,hb2⟩;exact⟨rfl,HI.out.step HL.out hb2 (by intro q hq;simp only[yI,yJ,or_false]at hq;rcases hq with rfl|rfl <;> first|exact(show(1:Nat)≠6 by decide)|exact(show(9:Nat)≠6 by decide))⟩
  ·intro s D w' hD hW hC hI;have hS:=hI.below;refine .inl ⟨s,fun _ _ _=>rfl,?_⟩;with_reducible refine yO rfl ?_
   have HS:=yH (hI.step HL.out yZ (k:=7) (by intro q hq;simp only[yI,yJ,or_false]at hq;rcases hq with rfl|rfl <;> first|exact(show(1:Nat)≠7 by decide)|exact(show(9:Nat)≠7 by decide)));clear hI hS hC hW hD;go_wp2_with fail;all_goals first|exact HS|exact⟨rfl,HS⟩|rfl
  ·intro s D w' hD hW hC hI;have hS:=hI.below;refine .inl ⟨s,fun _ _ _=>rfl,?_⟩;with_reducible refine OpTo.wanted ?_ ?_
   kernel_rfl
   have HS:=yH (hI.step HL.out yZ (k:=8) (by intro q hq;simp only[yI,yJ,or_false]at hq;rcases hq with rfl|rfl <;> first|exact(show(1:Nat)≠8 by decide)|exact(show(9:Nat)≠8 by decide)));clear hI hS hC hW hD;go_wp2_with fail;all_goals first|exact HS|exact⟨rfl,HS⟩|rfl
  ·intro s D w' hD hW hC hI;have hS:=hI.below;have HI:=yH hI;have HCl:=yH hC;have HD:=yH hD;have HC:=yH (plines_any (HL2.out.below hS) HI2.out);refine .inr ?_;with_reducible refine aEu.wanted ?_ ?_
   kernel_rfl
   clear hI hS hC hW hD;go_wp2_with fail;refine HC.out.mono ?_;rintro e w'' ⟨v,rfl,hv,hb2⟩;refine⟨v,rfl,updV s 9 v,aJ7 _ (fun s:Nat→Value=>[(.pointer (some ⟨G,0,none⟩)),s 1,(.pointer (some ⟨g,0,none⟩)),(.pointer (some ⟨g,0,none⟩)),(.pointer (some ⟨g,0,none⟩)),vp,(.bool true),(.bool true),(.pointer (some ⟨G,0,none⟩)),s 9,(.pointer (some ⟨g,0,none⟩)),(.pointer (some ⟨g,0,none⟩)),(.pointer (some ⟨g,1,none⟩)),vl,(.bool true),(.bool true),(.bool true)]) s 9 v HCl.out HD.out ?_,rfl,HI.out.put HL.out hb2 ?_⟩
   ·intro j hj
    match j,hj with
    | 0,_=>exact .inr rfl
    | 1,_=>exact .inr rfl
    | 2,_=>exact .inr rfl
    | 3,_=>exact .inr rfl
    | 4,_=>exact .inr rfl
    | 5,_=>exact .inr rfl
    | 6,_=>exact .inr rfl
    | 7,_=>exact .inr rfl
    | 8,_=>exact .inr rfl
    | 9,_=>exact .inl (.inl rfl)
    | 10,_=>exact .inr rfl
    | 11,_=>exact .inr rfl
    | 12,_=>exact .inr rfl
    | 13,_=>exact .inr rfl
    | 14,_=>exact .inr rfl
    | 15,_=>exact .inr rfl
    | 16,_=>exact .inr rfl
    | j+17,_=>exact .inr rfl
   intro q hq he;simp only[yI,yJ,or_false]at hq;rcases hq with rfl|rfl <;> first|exact hv.reads HN.out.2|exact absurd (show(1:Nat)=9 from he) (by decide)
  ·intro s D w' hD hW hC hI;have hS:=hI.below;refine .inl ⟨s,fun _ _ _=>rfl,?_⟩;with_reducible refine OpTo.wanted ?_ ?_
   kernel_rfl
   have HS:=yH (hI.step HL.out yZ (k:=10) (by intro q hq;simp only[yI,yJ,or_false]at hq;rcases hq with rfl|rfl <;> first|exact(show(1:Nat)≠10 by decide)|exact(show(9:Nat)≠10 by decide)));clear hI hS hC hW hD;go_wp2_with fail;all_goals first|exact HS|exact⟨rfl,HS⟩|rfl
  ·intro s D w' hD hW hC hI;have hS:=hI.below;refine .inl ⟨s,fun _ _ _=>rfl,?_⟩;with_reducible refine OpTo.wanted ?_ ?_
   kernel_rfl
   have hl0:=yM HR.out.blk.lt hS.size;have HS:=yH (hI.step HL.out yZ (k:=11) (by intro q hq;simp only[yI,yJ,or_false]at hq;rcases hq with rfl|rfl <;> first|exact(show(1:Nat)≠11 by decide)|exact(show(9:Nat)≠11 by decide)));clear hI hS hC hW hD;go_wp2_with fail;all_goals first|exact HS|exact⟨rfl,HS⟩|rfl
  ·intro s D w' hD hW hC hI;have hS:=hI.below;refine .inl ⟨s,fun _ _ _=>rfl,?_⟩;with_reducible refine OpTo.wanted ?_ ?_
   kernel_rfl
   have hl0:=yM HR.out.blk.lt hS.size;have HS:=yH (hI.step HL.out yZ (k:=12) (by intro q hq;simp only[yI,yJ,or_false]at hq;rcases hq with rfl|rfl <;> first|exact(show(1:Nat)≠12 by decide)|exact(show(9:Nat)≠12 by decide)));clear hI hS hC hW hD;go_wp2_with fail;all_goals first|exact HS|exact⟨rfl,HS⟩|rfl
  ·intro s D w' hD hW hC hI;have hS:=hI.below;refine .inl ⟨s,fun _ _ _=>rfl,?_⟩;with_reducible refine OpTo.wanted ?_ ?_
   kernel_rfl
   have hl0:=yM HR.out.blk.lt hS.size;have d0:=(HR.out.blk.below hS HR.out.blk.lt).cell 1;simp at d0;have HS:=yH (hI.step HL.out yZ (k:=13) (by intro q hq;simp only[yI,yJ,or_false]at hq;rcases hq with rfl|rfl <;> first|exact(show(1:Nat)≠13 by decide)|exact(show(9:Nat)≠13 by decide)));clear hI hS hC hW hD;go_wp2_with fail;all_goals first|exact HS|exact⟨rfl,HS⟩|rfl
  ·intro s D w' hD hW hC hI;have hS:=hI.below;refine .inl ⟨s,fun _ _ _=>rfl,?_⟩;with_reducible refine OpTo.wanted ?_ ?_
   kernel_rfl
   have hP9:D 9=true:=aBx hC hW (by kernel_rfl);have hq9:=hI.at (9,(fun v w=>aDb w v 5 ls.length (aA0 ls))) (by simp) hP9;dsimp only at hq9;have HI:=yH hI;have HC:=yH ((by have q:=aOe hq9 (pAF (aAc HR.out.l hS) HN.out.2);rw[decide_eq_true rfl]at q;exact q:Calls Tryz.prog 20 #[s 9,vl] w' fun e w''=>e=.returned (.bool true)∧Below w'.heap.size w' w''));clear hI hS hC hW hD hP9 hq9;go_wp2_with fail;refine HC.out.mono ?_;rintro e w'' ⟨rfl,hb2⟩;exact⟨rfl,HI.out.step HL.out hb2 (by intro q hq;simp only[yI,yJ,or_false]at hq;rcases hq with rfl|rfl <;> first|exact(show(1:Nat)≠14 by decide)|exact(show(9:Nat)≠14 by decide))⟩
  ·intro s D w' hD hW hC hI;have hS:=hI.below;refine .inl ⟨s,fun _ _ _=>rfl,?_⟩;with_reducible refine yO rfl ?_
   have HS:=yH (hI.step HL.out yZ (k:=15) (by intro q hq;simp only[yI,yJ,or_false]at hq;rcases hq with rfl|rfl <;> first|exact(show(1:Nat)≠15 by decide)|exact(show(9:Nat)≠15 by decide)));clear hI hS hC hW hD;go_wp2_with fail;all_goals first|exact HS|exact⟨rfl,HS⟩|rfl
  intro s D w' hD hW hC hI;have hS:=hI.below;refine .inl ⟨s,fun _ _ _=>rfl,?_⟩;with_reducible refine yO rfl ?_
  have HS:=yH (hI.step HL.out yZ (k:=16) (by intro q hq;simp only[yI,yJ,or_false]at hq;rcases hq with rfl|rfl <;> first|exact(show(1:Nat)≠16 by decide)|exact(show(9:Nat)≠16 by decide)));clear hI hS hC hW hD;go_wp2_with fail;all_goals first|exact HS|exact⟨rfl,HS⟩|rfl
 intro s D w2 hall hI;have B2:=yH hI.below;clear hI hall;dsimp only;go_wp2_with fail;go_ret;exact⟨rfl,B2.out⟩
theorem same4_any{w:World}{base base2 g r:Nat}{l:List Of}{N:Int}{vl vm:Value}(hP:PB w base g l N vl)(hR:RefB w base2 r l N vm)(hl:l.length≤1000):
  Calls Tryz.prog 49 #[.pointer (some ⟨g,0,none⟩),.pointer (some ⟨r,0,none⟩)] w (yR w (.bool true)):=by
 have HP:=yH hP;have HR:=yH hR;have HN:Hid (l.length≤1000):=yH hl;have HN2:Hid (l.length≤100000000):=yH (by omega);obtain⟨al,cl,hvl,_⟩:=aAd hR.row;clear hP hR hl hvl;go_enter Tryz.func49,Tryz.ntmps49;go_wp2_with fail
 have hlasts:∀q∈([(1,(fun v w=>aDb w v 7 l.length (aAa l)))]:List (Nat×(Value→World→Prop))),Lasts q.2:=by
  intro q hq;simp only[yI,yJ,or_false]at hq;rcases hq with rfl
  exact fun v w w' h k=>h.below k
 have HL:=yH hlasts;clear hlasts
 refine aGe (by kernel_rfl) (fun s:Nat→Value=>[(.pointer (some ⟨g,0,none⟩)),s 1,(.pointer (some ⟨r,0,none⟩)),(.pointer (some ⟨r,0,none⟩)),(.pointer (some ⟨r,0,none⟩)),vm,(.bool true),(.bool true),(.pointer (some ⟨g,0,none⟩)),(.int .u64 N),(.pointer (some ⟨r,0,none⟩)),(.pointer (some ⟨r,0,none⟩)),(.pointer (some ⟨r,1,none⟩)),(.int .u64 N),(.bool true),(.bool true),(.bool true)])
  (Got w [(1,(fun v w=>aDb w v 7 l.length (aAa l)))]) (by kernel_rfl) (fun _=>undef) (Got.start _ _ _) ?_
 intro AF hAF;simp only[yG,puts,Act.put,yA,yC,yF,yD,yE]at hAF;have hAF2:_=AF:=funext hAF;subst hAF2;clear hAF;refine⟨?_,?_⟩
 ·simp only[yG,aOv];refine⟨?_,?_,?_,?_,?_,?_,?_,?_,?_,?_,?_,?_,?_,?_,?_,?_,?_,trivial⟩
  ·intro s D w' hD hW hC hI;have hS:=hI.below;refine .inl ⟨s,fun _ _ _=>rfl,?_⟩;with_reducible refine yO rfl ?_
   have HS:=yH (hI.step HL.out yZ (k:=0) (by intro q hq;simp only[yI,yJ,or_false]at hq;rcases hq with rfl <;> first|exact(show(1:Nat)≠0 by decide)));clear hI hS hC hW hD;go_wp2_with fail;all_goals first|exact HS|exact⟨rfl,HS⟩|rfl
  ·intro s D w' hD hW hC hI;have hS:=hI.below;have HI:=yH hI;have HCl:=yH hC;have HD:=yH hD;have HC:=yH (pall_any (HP.out.below hS) HN.out);refine .inr ?_;with_reducible refine aEu.plain ?_ ?_
   exact rfl;clear hI hS hC hW hD;go_wp2_with fail;refine HC.out.mono ?_;rintro e w'' ⟨v,rfl,hv,hb2⟩;refine⟨v,rfl,updV s 1 v,aJ7 _ (fun s:Nat→Value=>[(.pointer (some ⟨g,0,none⟩)),s 1,(.pointer (some ⟨r,0,none⟩)),(.pointer (some ⟨r,0,none⟩)),(.pointer (some ⟨r,0,none⟩)),vm,(.bool true),(.bool true),(.pointer (some ⟨g,0,none⟩)),(.int .u64 N),(.pointer (some ⟨r,0,none⟩)),(.pointer (some ⟨r,0,none⟩)),(.pointer (some ⟨r,1,none⟩)),(.int .u64 N),(.bool true),(.bool true),(.bool true)]) s 1 v HCl.out HD.out ?_,rfl,HI.out.put HL.out hb2 ?_⟩
   ·intro j hj
    match j,hj with
    | 0,_=>exact .inr rfl
    | 1,_=>exact .inl (.inl rfl)
    | 2,_=>exact .inr rfl
    | 3,_=>exact .inr rfl
    | 4,_=>exact .inr rfl
    | 5,_=>exact .inr rfl
    | 6,_=>exact .inr rfl
    | 7,_=>exact .inr rfl
    | 8,_=>exact .inr rfl
    | 9,_=>exact .inr rfl
    | 10,_=>exact .inr rfl
    | 11,_=>exact .inr rfl
    | 12,_=>exact .inr rfl
    | 13,_=>exact .inr rfl
    | 14,_=>exact .inr rfl
    | 15,_=>exact .inr rfl
    | 16,_=>exact .inr rfl
    | j+17,_=>exact .inr rfl
   intro q hq he;simp only[yI,yJ,or_false]at hq;rcases hq with rfl <;> first|exact hv.reads HN2.out
  ·intro s D w' hD hW hC hI;have hS:=hI.below;refine .inl ⟨s,fun _ _ _=>rfl,?_⟩;with_reducible refine yO rfl ?_
   have HS:=yH (hI.step HL.out yZ (k:=2) (by intro q hq;simp only[yI,yJ,or_false]at hq;rcases hq with rfl <;> first|exact(show(1:Nat)≠2 by decide)));clear hI hS hC hW hD;go_wp2_with fail;all_goals first|exact HS|exact⟨rfl,HS⟩|rfl
  ·intro s D w' hD hW hC hI;have hS:=hI.below;refine .inl ⟨s,fun _ _ _=>rfl,?_⟩;with_reducible refine yO rfl ?_
   have hl0:=yM HR.out.blk.lt hS.size;have HS:=yH (hI.step HL.out yZ (k:=3) (by intro q hq;simp only[yI,yJ,or_false]at hq;rcases hq with rfl <;> first|exact(show(1:Nat)≠3 by decide)));clear hI hS hC hW hD;go_wp2_with fail;all_goals first|exact HS|exact⟨rfl,HS⟩|rfl
  ·intro s D w' hD hW hC hI;have hS:=hI.below;refine .inl ⟨s,fun _ _ _=>rfl,?_⟩;with_reducible refine yO rfl ?_
   have hl0:=yM HR.out.blk.lt hS.size;have HS:=yH (hI.step HL.out yZ (k:=4) (by intro q hq;simp only[yI,yJ,or_false]at hq;rcases hq with rfl <;> first|exact(show(1:Nat)≠4 by decide)));clear hI hS hC hW hD;go_wp2_with fail;all_goals first|exact HS|exact⟨rfl,HS⟩|rfl
  ·intro s D w' hD hW hC hI;have hS:=hI.below;refine .inl ⟨s,fun _ _ _=>rfl,?_⟩;with_reducible refine yO rfl ?_
   have hl0:=yM HR.out.blk.lt hS.size;have d0:=(HR.out.blk.below hS HR.out.blk.lt).cell 0;simp at d0;have HS:=yH (hI.step HL.out yZ (k:=5) (by intro q hq;simp only[yI,yJ,or_false]at hq;rcases hq with rfl <;> first|exact(show(1:Nat)≠5 by decide)));clear hI hS hC hW hD;go_wp2_with fail;all_goals first|exact HS|exact⟨rfl,HS⟩|rfl
  ·intro s D w' hD hW hC hI;have hS:=hI.below;refine .inl ⟨s,fun _ _ _=>rfl,?_⟩;with_reducible refine yO rfl ?_
   have hP1:D 1=true:=aBx hC hW (by kernel_rfl);have hq1:=hI.at (1,(fun v w=>aDb w v 7 l.length (aAa l))) (by simp) hP1;dsimp only at hq1;have HI:=yH hI;have HC:=yH ((by have q:=aMa hq1 (pAF (aAc HR.out.row hS) HN2.out);rw[decide_eq_true rfl]at q;exact q:Calls Tryz.prog 22 #[s 1,vm] w' fun e w''=>e=.returned (.bool true)∧Below w'.heap.size w' w''));clear hI hS hC hW hD hP1 hq1;go_wp2_with fail;refine HC.out.mono ?_;rintro e w'' ⟨rfl,hb2⟩;exact⟨rfl,HI.out.step HL.out hb2 (by intro q hq;simp only[yI,yJ,or_false]at hq;rcases hq with rfl <;> first|exact(show(1:Nat)≠6 by decide))⟩
  ·intro s D w' hD hW hC hI;have hS:=hI.below;refine .inl ⟨s,fun _ _ _=>rfl,?_⟩;with_reducible refine yO rfl ?_
   have HS:=yH (hI.step HL.out yZ (k:=7) (by intro q hq;simp only[yI,yJ,or_false]at hq;rcases hq with rfl <;> first|exact(show(1:Nat)≠7 by decide)));clear hI hS hC hW hD;go_wp2_with fail;all_goals first|exact HS|exact⟨rfl,HS⟩|rfl
  ·intro s D w' hD hW hC hI;have hS:=hI.below;refine .inl ⟨s,fun _ _ _=>rfl,?_⟩;with_reducible refine OpTo.wanted ?_ ?_
   kernel_rfl
   have HS:=yH (hI.step HL.out yZ (k:=8) (by intro q hq;simp only[yI,yJ,or_false]at hq;rcases hq with rfl <;> first|exact(show(1:Nat)≠8 by decide)));clear hI hS hC hW hD;go_wp2_with fail;all_goals first|exact HS|exact⟨rfl,HS⟩|rfl
  ·intro s D w' hD hW hC hI;have hS:=hI.below;refine .inl ⟨s,fun _ _ _=>rfl,?_⟩;with_reducible refine OpTo.wanted ?_ ?_
   kernel_rfl
   have HI:=yH hI;have HC:=yH ((aIq (HP.out.below hS).blk).mono (fun e w'' ⟨h1,h2⟩=>⟨h1,by rw[←h2];exact yZ⟩:∀e w'',_→(e=.returned (.int .u64 N)∧Below w'.heap.size w' w'')));clear hI hS hC hW hD;go_wp2_with fail;refine HC.out.mono ?_;rintro e w'' ⟨rfl,hb2⟩;exact⟨rfl,HI.out.step HL.out hb2 (by intro q hq;simp only[yI,yJ,or_false]at hq;rcases hq with rfl <;> first|exact(show(1:Nat)≠9 by decide))⟩
  ·intro s D w' hD hW hC hI;have hS:=hI.below;refine .inl ⟨s,fun _ _ _=>rfl,?_⟩;with_reducible refine OpTo.wanted ?_ ?_
   kernel_rfl
   have HS:=yH (hI.step HL.out yZ (k:=10) (by intro q hq;simp only[yI,yJ,or_false]at hq;rcases hq with rfl <;> first|exact(show(1:Nat)≠10 by decide)));clear hI hS hC hW hD;go_wp2_with fail;all_goals first|exact HS|exact⟨rfl,HS⟩|rfl
  ·intro s D w' hD hW hC hI;have hS:=hI.below;refine .inl ⟨s,fun _ _ _=>rfl,?_⟩;with_reducible refine OpTo.wanted ?_ ?_
   kernel_rfl
   have hl0:=yM HR.out.blk.lt hS.size;have HS:=yH (hI.step HL.out yZ (k:=11) (by intro q hq;simp only[yI,yJ,or_false]at hq;rcases hq with rfl <;> first|exact(show(1:Nat)≠11 by decide)));clear hI hS hC hW hD;go_wp2_with fail;all_goals first|exact HS|exact⟨rfl,HS⟩|rfl
  ·intro s D w' hD hW hC hI;have hS:=hI.below;refine .inl ⟨s,fun _ _ _=>rfl,?_⟩;with_reducible refine OpTo.wanted ?_ ?_
   kernel_rfl
   have hl0:=yM HR.out.blk.lt hS.size;have HS:=yH (hI.step HL.out yZ (k:=12) (by intro q hq;simp only[yI,yJ,or_false]at hq;rcases hq with rfl <;> first|exact(show(1:Nat)≠12 by decide)));clear hI hS hC hW hD;go_wp2_with fail;all_goals first|exact HS|exact⟨rfl,HS⟩|rfl
  ·intro s D w' hD hW hC hI;have hS:=hI.below;refine .inl ⟨s,fun _ _ _=>rfl,?_⟩;with_reducible refine OpTo.wanted ?_ ?_
   kernel_rfl
   have hl0:=yM HR.out.blk.lt hS.size;have d0:=(HR.out.blk.below hS HR.out.blk.lt).cell 1;simp at d0;have HS:=yH (hI.step HL.out yZ (k:=13) (by intro q hq;simp only[yI,yJ,or_false]at hq;rcases hq with rfl <;> first|exact(show(1:Nat)≠13 by decide)));clear hI hS hC hW hD;go_wp2_with fail;all_goals first|exact HS|exact⟨rfl,HS⟩|rfl
  ·intro s D w' hD hW hC hI;have hS:=hI.below;refine .inl ⟨s,fun _ _ _=>rfl,?_⟩;with_reducible refine OpTo.wanted ?_ ?_
   kernel_rfl
   have HS:=yH (hI.step HL.out yZ (k:=14) (by intro q hq;simp only[yI,yJ,or_false]at hq;rcases hq with rfl <;> first|exact(show(1:Nat)≠14 by decide)));clear hI hS hC hW hD;go_wp2_with fail;all_goals first|exact HS|exact⟨rfl,HS⟩|rfl
  ·intro s D w' hD hW hC hI;have hS:=hI.below;refine .inl ⟨s,fun _ _ _=>rfl,?_⟩;with_reducible refine yO rfl ?_
   have HS:=yH (hI.step HL.out yZ (k:=15) (by intro q hq;simp only[yI,yJ,or_false]at hq;rcases hq with rfl <;> first|exact(show(1:Nat)≠15 by decide)));clear hI hS hC hW hD;go_wp2_with fail;all_goals first|exact HS|exact⟨rfl,HS⟩|rfl
  intro s D w' hD hW hC hI;have hS:=hI.below;refine .inl ⟨s,fun _ _ _=>rfl,?_⟩;with_reducible refine yO rfl ?_
  have HS:=yH (hI.step HL.out yZ (k:=16) (by intro q hq;simp only[yI,yJ,or_false]at hq;rcases hq with rfl <;> first|exact(show(1:Nat)≠16 by decide)));clear hI hS hC hW hD;go_wp2_with fail;all_goals first|exact HS|exact⟨rfl,HS⟩|rfl
 intro s D w2 hall hI;have B2:=yH hI.below;clear hI hall;dsimp only;go_wp2_with fail;go_ret;exact⟨rfl,B2.out⟩
theorem aJd{w:World}{G M gb rl rb b1 b2 b3:Nat}{ps:List Int}{ls:List Ln}{l:List Of}{N:Int}{vp vl vb vm:Value}(hL:LedM w G M ps ls)(hI:LInv ps ls)(hP:PB w b1 gb l N vb)(hR:RefL w b2 rl ps ls vp vl)(hB:RefB w b3 rb l N vm)(hp:ps.length≤100000)(hl:l.length≤1000):
  Calls Tryz.prog 16 #[.agg #[.pointer (some ⟨G,0,none⟩),.pointer (some ⟨gb,0,none⟩)],.agg #[.pointer (some ⟨rl,0,none⟩),.pointer (some ⟨rb,0,none⟩)]] w (yR w (.bool true)):=by
 have hg1:(w.alloc (.cells #[.pointer (some ⟨G,0,none⟩),.pointer (some ⟨gb,0,none⟩)] 32)).heap.size=w.heap.size+1:=by simp
 have c1:=(Below.refl w.heap.size w).alloc yL (.cells #[.pointer (some ⟨G,0,none⟩),.pointer (some ⟨gb,0,none⟩)] 32);have k1:=pAA w #[.pointer (some ⟨G,0,none⟩),.pointer (some ⟨gb,0,none⟩)] 32;generalize hW1:w.alloc (.cells #[.pointer (some ⟨G,0,none⟩),.pointer (some ⟨gb,0,none⟩)] 32)=W1 at *;have c2:=(Below.refl W1.heap.size W1).alloc yL (.cells #[.pointer (some ⟨rl,0,none⟩),.pointer (some ⟨rb,0,none⟩)] 37);have k2:=pAA W1 #[.pointer (some ⟨rl,0,none⟩),.pointer (some ⟨rb,0,none⟩)] 37;rw[hg1]at k2;generalize hW2:W1.alloc (.cells #[.pointer (some ⟨rl,0,none⟩),.pointer (some ⟨rb,0,none⟩)] 37)=W2 at *;have HW1:=yH hW1;have HW2:=yH hW2;have KX:=yH (k1.below c2 k1.lt);have KY:=yH k2;have B1:=yH (c1.trans (c2.mono c1.size));have C1:=yH (aSf ((hL.below c1).below c2) hI ((hR.below c1).below c2) hp);have HP:=yH ((hP.below c1).below c2);have HB:=yH ((hB.below c1).below c2);have H3:=yH hl;clear hL hI hP hR hB hp hl c1 c2 k1 k2 hW1 hW2 hg1;go_enter Tryz.func16,Tryz.ntmps16
 go_upto_region 1 with fail
 rw[HW1.out,HW2.out];have e0:=KX.out.cell 0;have e1:=KX.out.cell 1;have kx:=KX.out.lt;have f0:=KY.out.cell 0;have f1:=KY.out.cell 1;have ky:=KY.out.lt;simp at e0 e1 f0 f1;go_wp2_with fail;refine C1.out.mono ?_;rintro e w1 ⟨rfl,b1⟩;have KX1:=yB KX b1;have KY1:=yB KY b1;have C2:=yH (same4_any (HP.out.below b1) (HB.out.below b1) H3.out);have BB:=yT B1 b1;clear e0 e1 kx f0 f1 ky b1 KX KY HP HB C1;have e0:=KX1.out.cell 0;have e1:=KX1.out.cell 1;have kx:=KX1.out.lt;have f0:=KY1.out.cell 0;have f1:=KY1.out.cell 1;have ky:=KY1.out.lt;simp at e0 e1 f0 f1;go_wp2_with fail;refine C2.out.mono ?_;rintro e w2 ⟨rfl,b2⟩;have B3:=yT BB b2;clear b2 C2 e0 e1 kx f0 f1 ky;go_wp2_with fail;go_ret;exact⟨rfl,B3.out⟩
theorem aSg{w:World}(a1 a2:Option Addr)(n1 n2 c1 c2:Nat)(h1:n1≤maxLen)(h2:n2≤maxLen):
  Calls Tryz.prog 7 #[.agg #[.slice a1 n1 c1,.slice a2 n2 c2]] w fun e w'=>e=.returned (.bool (decide (120<n1∨40<n2)))∧Below w.heap.size w w':=by
 have b1:=(Below.refl w.heap.size w).alloc yL (.cells #[.slice a1 n1 c1,.slice a2 n2 c2] 25);have k1:=pAA w #[.slice a1 n1 c1,.slice a2 n2 c2] 25;have KX:=yH k1;have B1:=yH b1;clear b1 k1;unfold maxLen at h1 h2;go_enter Tryz.func7,Tryz.ntmps7
 go_upto_region 1 with fail
 generalize w.alloc (.cells #[.slice a1 n1 c1,.slice a2 n2 c2] 25)=W at *;have e0:=KX.out.cell 0;have e1:=KX.out.cell 1;have kx:=KX.out.lt;simp at e0 e1
 by_cases q1:120<n1
 ·have q2:decide ((120:Int)<(n1:Int))=true:=by simp;omega
  have Q3:Hid (decide (120<n1∨40<n2)=true):=yH (by rw[decide_eq_true_iff];omega);go_wp2_with fail;go_ret;exact⟨by rw[Q3.out];rfl,B1.out⟩
 have q2:decide ((120:Int)<(n1:Int))=false:=by simp;omega
 have Q3:Hid (decide (120<n1∨40<n2)=decide ((40:Int)<(n2:Int))):=yH (by rw[decide_eq_decide];omega);go_wp2_with fail;go_ret;exact⟨by rw[Q3.out];rfl,B1.out⟩
def okO(nx:Int)(l:List Of):Prop:=l.Pairwise (fun x y=>x.se<y.se)∧∀x∈l,x.may∧x.se≠0∧x.se<nx
theorem rise_takeO{l:List Of}{k:Nat}(hk:k<l.length)(h:(l.take k).Pairwise fun x y=>x.se<y.se)(hs:∀hk0:0<k,(l[k - 1]'(by omega)).se<l[k].se):(l.take (k+1)).Pairwise fun x y=>x.se<y.se:=by
 rw[List.take_succ_eq_append_getElem hk,List.pairwise_append];refine⟨h,by simp,fun a ha b hb=>?_⟩;rw[List.mem_singleton]at hb;subst hb;obtain⟨j,hj,rfl⟩:=List.mem_take_iff_getElem.1 ha;have hk0:0<k:=by omega
 by_cases hjk:j=k - 1
 ·subst hjk;exact hs hk0
 have h1:=List.pairwise_iff_getElem.1 h j (k - 1) (by simp;omega) (by simp;omega) (by omega);have h2:=hs hk0;simp only[List.getElem_take]at h1;omega
theorem okO.next{nx:Int}{l:List Of}{k:Nat}(hk:k<l.length)(h:okO nx (l.take k))(h1:l[k].may)(h2:l[k].se≠0)(h3:l[k].se<nx)(hs:∀hk0:0<k,(l[k - 1]'(by omega)).se<l[k].se):okO nx (l.take (k+1)):=by
 refine⟨rise_takeO hk h.1 hs,fun x hx=>?_⟩;rw[List.take_succ_eq_append_getElem hk,List.mem_append,List.mem_singleton]at hx;rcases hx with hx|rfl
 ·exact h.2 x hx
 exact⟨h1,h2,h3⟩
theorem okO.bad{nx:Int}{l:List Of}{k:Nat}(hk:k<l.length)(h:¬l[k].may∨l[k].se=0∨nx≤l[k].se∨∃hk0:0<k,l[k].se≤(l[k - 1]'(by omega)).se):¬okO nx l:=by
 rintro⟨h1,h2⟩;have h3:=h2 l[k] (List.getElem_mem _);rcases h with h|h|h|⟨hk0,h⟩
 ·exact h h3.1
 ·exact h3.2.1 h
 ·have:=h3.2.2;omega
 have:=List.pairwise_iff_getElem.1 h1 (k - 1) k (by omega) hk (by omega);omega
end Go.Proofs.YtojbmnbphdcjfaaGreat
