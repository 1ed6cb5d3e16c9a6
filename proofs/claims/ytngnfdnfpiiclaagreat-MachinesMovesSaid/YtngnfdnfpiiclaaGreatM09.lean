/- Pieces of one proof. -/
import Derived.Test.YtngnfdnfpiiclaaGreatM08
set_option linter.all false
set_option maxHeartbeats 64000000
set_option maxRecDepth 100000
namespace Go.Proofs.YtngnfdnfpiiclaaGreat
open Go.RowKit
theorem aHc{P:Program}{ops:Array Oper}{o:Oper}{a:Act}{w:World}{K:Act→World→Prop}{Q:Exit→Act→World→Prop}{E:Prop}
  (hg:o.guard=none)(s x:Operand)(t:TypeId)(hop:o.op=Op.call { callee:=Callee.builtin Builtin.append,args:=#[s,x],argTypes:=#[t,t] })
  (base:Nat)(e:TypeId){z:Value}(ht:P.underlying t=some (.slice e))(hz0:z.cells.size=7)(hi:(P.info? e).map (fun i=>(i.zero,i.size,i.bytes))=some (some z,7,40))(v:Value)(l:List Of)(hs:a.eval s=v)(hown:w.ownsRow base e 7 v l.length (aAb l))
  (g c:Nat)(y:Of)(hx:a.eval x=.slice (some ⟨g,0,none⟩) 1 c)(hy:Blk w g #[.int .u64 y.se,.int .u8 y.ow,.int .u8 y.sl,.int .u8 y.bu,.int .i64 y.lf,.int .i64 y.nu,.int .i64 y.de] e)(hlen:l.length≤100000)(hbase:base≤w.heap.size)
  (hK:∀v' w',w'.ownsRow base e 7 v' (l++[y]).length (aAb (l++[y]))→w.grownBy w' v.ownBlock→(v'.ownBlock=v.ownBlock∨v'.ownBlock=some w.heap.size)→K (a.put o.dst v') w'):
  if Region.wanted o (yielded ops a.tmps)=true then Oper.wp P o a w K Q else E:=by
 have hw:Region.wanted o (yielded ops a.tmps)=true:=vI
 rw[if_pos hw];obtain⟨i0,hi1,hi2,hi3,hi4⟩:=info_parts hi
 obtain⟨v',w',hr,h2,h3,_,h5⟩:=run_append_own_at (P:=P) w base t o.type e i0 z 7 40 ht hi1 hi2 hi3 hi4 hz0 zX v l.length (aAb l) hown ⟨g,0,none⟩ 1 c y.vals rfl (fun j u hj=>by
   have:=hy.cell j;rw[Go.WideShapes.add_plain,Nat.zero_add,this]
   match j,hj with
   | 0,hj=>simpa [Of.vals]using hj
   | 1,hj=>simpa [Of.vals]using hj
   | 2,hj=>simpa [Of.vals]using hj
   | 3,hj=>simpa [Of.vals]using hj
   | 4,hj=>simpa [Of.vals]using hj
   | 5,hj=>simpa [Of.vals]using hj
   | 6,hj=>simpa [Of.vals]using hj
   | j+7,hj=>simp[Of.vals]at hj) (by intro u hu;simp[Of.vals]at hu;rcases hu with rfl|rfl|rfl|rfl|rfl|rfl|rfl <;> rfl) zE zQ hbase
 rw[←aIm,←aBc]at h2;refine aN4 s x t hop hs hx hr ?_;exact hK v' w' (by rw[List.length_append];exact h2) h3 h5
theorem BInv.place{l:List Of}{x:Of}(h:BInv l x.se):BInv (aFi l x) (aE5 l x):=by
 unfold aFi aE5
 by_cases e:aC6 l x=0
 ·rw[if_pos e,if_pos e];unfold aC6 at e;split at e
  ·simp at e
  rename_i hm;have hm:=Decidable.not_not.1 hm;split at e
  ·simp at e
  rename_i h2;have:=h.len;have:=h.n1;have:=h.n2;have hl:l.length≠32:=fun k=>h2 (.inl k)
  have hs:x.se≠18446744073709551615:=fun k=>h2 (.inr k)
  refine⟨fun y hy=>?_,?_,fun y hy=>?_,by rw[List.length_append,List.length_singleton];omega,zQ,zQ⟩
  ·rcases List.mem_append.1 hy with hy|hy
   ·exact h.may y hy
   rw[List.mem_singleton]at hy;rw[hy];exact hm
  ·rw[List.pairwise_append];refine⟨h.rise,zV,fun a ha b hb=>?_⟩;rw[List.mem_singleton]at hb;rw[hb];exact(h.bd a ha).2
  rcases List.mem_append.1 hy with hy|hy
  ·have:=h.bd y hy;omega
  rw[List.mem_singleton]at hy;rw[hy];omega
 rw[if_neg e,if_neg e];exact h
theorem PB.setN{w:World}{base g:Nat}{l:List Of}{N:Int}{vl:Value}(h:PB w base g l N vl)(M:Int):PB (w.setCell ⟨g,1,none⟩ (.int .u64 M)) base g l M vl:=by
 have k2:Keep (·=g) w (w.setCell ⟨g,1,none⟩ (.int .u64 M)):=Keep.setCell (S:=(·=g)) (Keep.refl _ _) (p:=⟨g,1,none⟩) (.inl rfl) _;exact⟨by simpa using h.blk.set 1 (.int .u64 M),h.ge,aBr h.row k2 (fun b hb e=>h.apart b hb e)⟩
theorem appended{W w':World}{base g cap:Nat}{ao:Option Addr}{l:List Of}{x:Of}{N:Int}{c:Obj}{v':Value}(h:PB W base g l N (.slice ao l.length cap))(ho:w'.ownsRow base 197 7 v' (l++[x]).length (aAb (l++[x])))
  (hgr:(W.drew.alloc c).grownBy w' (Value.ownBlock (.slice ao l.length cap)))(hat:v'.ownBlock=Value.ownBlock (.slice ao l.length cap)∨v'.ownBlock=some (W.drew.alloc c).heap.size):
  Blk w' g #[.slice ao l.length cap,.int .u64 N] 158∧(PB (w'.setCell ⟨g,0,none⟩ v') base g (l++[x]) N v'∧(Keep (Foot g (.slice ao l.length cap)) W (w'.setCell ⟨g,0,none⟩ v')∧aEj W (.slice ao l.length cap) v')∧
   ∀{a:Nat} {cs:Array Value} {t:TypeId},Blk W a cs t→(¬Foot g (.slice ao l.length cap) a)→Blk (w'.setCell ⟨g,0,none⟩ v') a cs t):=by
 have hB:Blk w' g #[.slice ao l.length cap,.int .u64 N] 158:=Blk.grown ((h.blk.drew).alloc _) hgr (fun e=>(h.apart _ e) rfl);have k2:Keep (·=g) w' (w'.setCell ⟨g,0,none⟩ v'):=Keep.setCell (S:=(·=g)) (Keep.refl _ _) (p:=⟨g,0,none⟩) (.inl rfl) _;have k1:Keep (Foot g (.slice ao l.length cap)) W w':=((Keep.refl _ W).drew.alloc _).grown hgr (fun k hk=>.inl (.inr hk));have hgl:=h.blk.lt;have k3:=k1.trans (k2.mono fun k _ hk=>.inl hk);refine⟨hB,⟨v6 (hB.set 0 v'),h.ge,aBr ho k2 ?_⟩,⟨k3,?_⟩,fun ha hf=>ha.keep k3 hf⟩
 ·intro b hb e;rcases hat with q|q
  ·rw[hb]at q;exact h.apart b q.symm e
  rw[hb]at q;cases q;rw[←e]at hgl;simp at hgl;omega
 intro b hb;rcases hat with q|q
 ·exact .inl (by rw[←q];exact hb)
 rw[hb]at q;cases q;exact .inr zV
theorem pplace_r1{W:World}{R:Nat}{x:Of}{pv:Value}(HN:Hid (∀w',Below W.heap.size W w'→Calls Tryz.prog 60 #[pv] w' fun e w''=>e=.returned (.int .u64 x.se)∧w'=w''))(KR:Hid (Blk W R #[.int .i64 x.nu,.int .i64 x.de] 73)){Q:Exit→Act→World→Prop}{c5 c6 c7 c8 c9 c10 c12 c13 c14 c15 c16 c17 c18 c19 c20 c21 c22 c23 c24 c25 c26 c27 c28 c29 c30 c31 c32 c33 c34 c35 c36 c37 c38 c39 c40 c41 c42 c43 c44 c45 c46 c47 c48 c49 c50 c51 c52 c53 c54 c55 c56 c57 c58 c59 c60 c61:Value}
  (hq:∀a w6,W.heap.size≤a→Blk w6 a #[.int .u64 x.se,.int .u8 x.ow,.int .u8 x.sl,.int .u8 x.bu,.int .i64 x.lf,.int .i64 x.nu,.int .i64 x.de] 197→Below W.heap.size W w6→Q .normal ⟨#[pv,(.int .u8 x.ow),(.int .u8 x.sl),(.int .u8 x.bu),(.int .i64 x.lf),c5,c6,c7,c8,c9,c10,(.pointer (some ⟨R,0,none⟩)),c12,c13,(.pointer (some ⟨a,0,none⟩)),pv,(.int .u64 x.se),(.int .u8 x.ow),(.int .u8 x.sl),(.int .u8 x.bu),(.int .i64 x.lf),(.agg #[.int .i64 x.nu,.int .i64 x.de]),(.agg #[.int .u64 x.se,.int .u8 x.ow,.int .u8 x.sl,.int .u8 x.bu,.int .i64 x.lf,.int .i64 x.nu,.int .i64 x.de]),c23,c24,c25,c26,c27,c28,c29,c30,c31,c32,c33,c34,c35,c36,c37,c38,c39,c40,c41,c42,c43,c44,c45,c46,c47,c48,c49,c50,c51,c52,c53,c54,c55,c56,c57,c58,c59,c60,c61],[]⟩ w6):
  Code.wp Tryz.prog (((Tryz.f243.body).bind (aFb 1)).getD .skip) Q ⟨#[pv,(.int .u8 x.ow),(.int .u8 x.sl),(.int .u8 x.bu),(.int .i64 x.lf),c5,c6,c7,c8,c9,c10,(.pointer (some ⟨R,0,none⟩)),c12,c13,c14,c15,c16,c17,c18,c19,c20,c21,c22,c23,c24,c25,c26,c27,c28,c29,c30,c31,c32,c33,c34,c35,c36,c37,c38,c39,c40,c41,c42,c43,c44,c45,c46,c47,c48,c49,c50,c51,c52,c53,c54,c55,c56,c57,c58,c59,c60,c61],[]⟩ W:=by
 conv=>arg 2;whnf
 have HQ:=yH hq;clear hq
 refine aA9 zW (fun g:Nat→Nat=>[pv,(.int .u64 x.se),(.int .u8 x.ow),(.int .u8 x.sl),(.int .u8 x.bu),(.int .i64 x.lf),(.agg #[.int .i64 x.nu,.int .i64 x.de]),(.agg #[.int .u64 x.se,.int .u8 x.ow,.int .u8 x.sl,.int .u8 x.bu,.int .i64 x.lf,.int .i64 x.nu,.int .i64 x.de]),(.pointer (some ⟨g 8,0,none⟩)),undef])
  (Lays W [(⟨8,9,(.cells #[.int .u64 0,.int .u8 0,.int .u8 0,.int .u8 0,.int .i64 0,.int .i64 0,.int .i64 0] 197),(.cells #[.int .u64 x.se,.int .u8 x.ow,.int .u8 x.sl,.int .u8 x.bu,.int .i64 x.lf,.int .i64 x.nu,.int .i64 x.de] 197)⟩:Spec)]) zW (fun _=>0) (Lays.start _ _ _) ?_
 intro AF hAF;simp only[yG,puts,Act.put,yA,yC,yF,yD,yE]at hAF;have hAF2:_=AF:=funext hAF;subst hAF2;clear hAF;refine⟨?_,?_⟩
 ·simp only[yG,aFp];refine⟨?_,?_,?_,?_,?_,?_,?_,?_,?_,?_,trivial⟩
  ·intro g D w' hD hW hC hI;refine⟨g,fun _ _ _=>rfl,?_⟩;with_reducible refine yO rfl ?_
   have HS:=yH (hI.step yZ (k:=0) zP);clear hI hC hW hD;go_wp2_with fail;all_goals first|exact HS|exact⟨rfl,HS⟩|rfl
  ·intro g D w' hD hW hC hI;refine⟨g,fun _ _ _=>rfl,?_⟩;with_reducible refine yO rfl ?_
   have hS:=hI.below;have HI:=yH hI;have HC:=yH (HN.o w' hS);clear hI hS hC hW hD;go_wp2_with fail;refine HC.o.mono ?_;rintro e w'' ⟨rfl,rfl⟩;exact⟨rfl,HI.o.step yZ zP⟩
  ·intro g D w' hD hW hC hI;refine⟨g,fun _ _ _=>rfl,?_⟩;with_reducible refine yO rfl ?_
   have HS:=yH (hI.step yZ (k:=2) zP);clear hI hC hW hD;go_wp2_with fail;all_goals first|exact HS|exact⟨rfl,HS⟩|rfl
  ·intro g D w' hD hW hC hI;refine⟨g,fun _ _ _=>rfl,?_⟩;with_reducible refine yO rfl ?_
   have HS:=yH (hI.step yZ (k:=3) zP);clear hI hC hW hD;go_wp2_with fail;all_goals first|exact HS|exact⟨rfl,HS⟩|rfl
  ·intro g D w' hD hW hC hI;refine⟨g,fun _ _ _=>rfl,?_⟩;with_reducible refine yO rfl ?_
   have HS:=yH (hI.step yZ (k:=4) zP);clear hI hC hW hD;go_wp2_with fail;all_goals first|exact HS|exact⟨rfl,HS⟩|rfl
  ·intro g D w' hD hW hC hI;refine⟨g,fun _ _ _=>rfl,?_⟩;with_reducible refine yO rfl ?_
   have HS:=yH (hI.step yZ (k:=5) zP);clear hI hC hW hD;go_wp2_with fail;all_goals first|exact HS|exact⟨rfl,HS⟩|rfl
  ·intro g D w' hD hW hC hI;refine⟨g,fun _ _ _=>rfl,?_⟩;with_reducible refine yO rfl ?_
   have hS:=hI.below;have d0_0:=(KR.o.below hS KR.o.lt).cell 0;have d0_1:=(KR.o.below hS KR.o.lt).cell 1;simp at d0_0 d0_1;have HS:=yH (hI.step yZ (k:=6) zP);clear hI hS hC hW hD;go_wp2_with fail;all_goals first|exact HS|exact⟨rfl,HS⟩|rfl
  ·intro g D w' hD hW hC hI;refine⟨g,fun _ _ _=>rfl,?_⟩;with_reducible refine yO rfl ?_
   have HS:=yH (hI.step yZ (k:=7) zP);clear hI hC hW hD;go_wp2_with fail;all_goals first|exact HS|exact⟨rfl,HS⟩|rfl
  ·intro g D w' hD hW hC hI;have hN:D 9=false:=aBm hC hD 12 9 zW;refine⟨upd g 8 w'.heap.size,aC7 _ (fun g:Nat→Nat=>[pv,(.int .u64 x.se),(.int .u8 x.ow),(.int .u8 x.sl),(.int .u8 x.bu),(.int .i64 x.lf),(.agg #[.int .i64 x.nu,.int .i64 x.de]),(.agg #[.int .u64 x.se,.int .u8 x.ow,.int .u8 x.sl,.int .u8 x.bu,.int .i64 x.lf,.int .i64 x.nu,.int .i64 x.de]),(.pointer (some ⟨g 8,0,none⟩)),undef]) g 8 _ 12 hC hD ?_,?_⟩
   ·intro j hj
    match j,hj with
    | 0,_=>exact .inr rfl
    | 1,_=>exact .inr rfl
    | 2,_=>exact .inr rfl
    | 3,_=>exact .inr rfl
    | 4,_=>exact .inr rfl
    | 5,_=>exact .inr rfl
    | 6,_=>exact .inr rfl
    | 7,_=>exact .inr rfl
    | 8,_=>exact .inl (.inl rfl)
    | 9,_=>exact .inr rfl
    | j+10,_=>exact .inr rfl
   with_reducible refine yO rfl ?_
   have HS:=yH (hI.lay (⟨8,9,(.cells #[.int .u64 0,.int .u8 0,.int .u8 0,.int .u8 0,.int .i64 0,.int .i64 0,.int .i64 0] 197),(.cells #[.int .u64 x.se,.int .u8 x.ow,.int .u8 x.sl,.int .u8 x.bu,.int .i64 x.lf,.int .i64 x.nu,.int .i64 x.de] 197)⟩:Spec) zV zP (.inr hN) zP (fun s' hs' _=>List.mem_singleton.1 hs') (.cells #[.int .u64 0,.int .u8 0,.int .u8 0,.int .u8 0,.int .i64 0,.int .i64 0,.int .i64 0] 197) rfl);clear hI hC hW hD hN;go_wp2_with fail;all_goals first|exact HS|exact⟨rfl,HS⟩|rfl
  intro g D w' hD hW hC hI;have hP:D 8=true:=aA4 hC hW (d:=12) zW;obtain⟨hg,hk⟩:=hI.zeroed (⟨8,9,(.cells #[.int .u64 0,.int .u8 0,.int .u8 0,.int .u8 0,.int .i64 0,.int .i64 0,.int .i64 0] 197),(.cells #[.int .u64 x.se,.int .u8 x.ow,.int .u8 x.sl,.int .u8 x.bu,.int .i64 x.lf,.int .i64 x.nu,.int .i64 x.de] 197)⟩:Spec) zV hP hD;refine⟨g,fun _ _ _=>rfl,?_⟩;with_reducible refine yO rfl ?_
  refine wp_store_row 197 (.tmp 14) (.tmp 22) rfl (g 8) #[.int .u64 x.se,.int .u8 x.ow,.int .u8 x.sl,.int .u8 x.bu,.int .i64 x.lf,.int .i64 x.nu,.int .i64 x.de] rfl rfl 197 _ hk zW rfl zK ⟨rfl,?_⟩;exact hI.fill (⟨8,9,(.cells #[.int .u64 0,.int .u8 0,.int .u8 0,.int .u8 0,.int .i64 0,.int .i64 0,.int .i64 0] 197),(.cells #[.int .u64 x.se,.int .u8 x.ow,.int .u8 x.sl,.int .u8 x.bu,.int .i64 x.lf,.int .i64 x.nu,.int .i64 x.de] 197)⟩:Spec) zV zP (show(9:Nat)≠8 by decide) (fun s' hs' _=>List.mem_singleton.1 hs') hP (aAc _ _) (setRow_heap w' (g 8) _ _ 197 (0,0) hk)
 intro g D w6 hall hI;obtain⟨h1,h2⟩:=hI.full (⟨8,9,(.cells #[.int .u64 0,.int .u8 0,.int .u8 0,.int .u8 0,.int .i64 0,.int .i64 0,.int .i64 0] 197),(.cells #[.int .u64 x.se,.int .u8 x.ow,.int .u8 x.sl,.int .u8 x.bu,.int .i64 x.lf,.int .i64 x.nu,.int .i64 x.de] 197)⟩:Spec) zV (hall 8 zX) (hall 9 zX);exact HQ.o (g 8) w6 h1 h2 hI.below
theorem pplace_any{w:World}{base g:Nat}{l:List Of}{x:Of}{vl:Value}(h:PB w base g l x.se vl)(hI:BInv l x.se)(hx:x.Fits):
  Calls Tryz.prog 243 #[.pointer (some ⟨g,0,none⟩),.int .u8 x.ow,.int .u8 x.sl,.int .u8 x.bu,.int .i64 x.lf,.agg #[.int .i64 x.nu,.int .i64 x.de]] w fun e w'=>e=.returned (.tuple #[.int .u64 (aFw l x),.int .i64 (aC6 l x)])∧∃vl',PB w' base g (aFi l x) (aE5 l x) vl'∧Keep (Foot g vl) w w'∧aEj w vl vl':=by
 have bw:=(Below.refl w.heap.size w).alloc yL (.cells #[.int .i64 x.nu,.int .i64 x.de] 73);have H1:=yH (h.below bw);have KR:=yH (Blk.new w #[.int .i64 x.nu,.int .i64 x.de] 73);have B1:=yH bw;have HI:=yH hI;have HX:=yH hx;have HG:=yH (h.below bw).blk;have HL:=yH (fun b (hb:Foot g vl b)=>(h.lt hb).2);clear bw h hI hx;go_enter Tryz.func243,Tryz.ntmps243;go_wp2_with fail;generalize hWW:w.alloc (.cells #[.int .i64 x.nu,.int .i64 x.de] 73)=W at *;clear hWW;refine pplace_r1 (yH (fun w' k=>aJm (HG.o.below k HG.o.lt))) KR ?_;intro a w2 ha hA b2;have H2:=yH (H1.o.below b2);have B2:=yT B1 b2;have HA:=yH hA;have HAF:=yH (show ¬Foot g vl a from fun hf=>uQ (HL.o a hf) B1.o.size);have CM:=yH (aM0 H2.o.blk HI.o.n1);have CY:=yH (pmay_any x w2 HX.o);have a0:=hA.cell 0;have a1:=hA.cell 1;have a2:=hA.cell 2;have a3:=hA.cell 3;have a4:=hA.cell 4;have a5:=hA.cell 5;have a6:=hA.cell 6;simp at a0 a1 a2 a3 a4 a5 a6;have hlen:=HI.o.len;clear ha hA b2 H1 B1 HG KR HL
 by_cases hm:¬x.may
 ·have e1:aC6 l x=1:=by unfold aC6;rw[if_pos hm]
  have E:=yH (show aC6 l x=1∧aFw l x=0∧aFi l x=l∧aE5 l x=x.se from⟨e1,by unfold aFw;rw[e1];rfl,by unfold aFi;rw[e1];rfl,by unfold aE5;rw[e1];rfl⟩);rw[decide_eq_false hm]at CY;clear e1 hm;go_wp2_with fail;refine CM.o.mono ?_;rintro e w2 ⟨rfl,rfl⟩;go_wp2_with fail;refine CY.o.mono ?_;rintro e w3 ⟨rfl,b3⟩;have H3:=yH (H2.o.below b3);have B3:=yT B2 b3;clear b3 H2 B2 CM CY a0 a1 a2 a3 a4 a5 a6;go_wp2_with fail;refine bodyPost_ret (v:=.tuple #[.int .u64 0,.int .i64 1]) xP rfl ?_;rw[E.o.1,E.o.2.1,E.o.2.2.1,E.o.2.2.2];exact⟨rfl,vl,H3.o,pAD B3.o,aEj.refl _ _⟩
 have hm:=Decidable.not_not.1 hm;rw[decide_eq_true hm]at CY;obtain⟨ao,cap,hvl,hc1,hc2,_⟩:=aAh H2.o.row;subst hvl;unfold maxLen at hc2;go_wp2_with fail;refine CM.o.mono ?_;rintro e w2 ⟨rfl,rfl⟩;go_wp2_with fail;refine CY.o.mono ?_;rintro e w3 ⟨rfl,b3⟩;have HG4:=yH (H2.o.below b3);have HA4:=yB HA b3;have HA4b:=HAF;have B3:=yT B2 b3;clear b3 H2 B2 CM CY a0 a1 a2 a3 a4 a5 a6 HA HAF;have d0:=HG4.o.blk.cell 0;have a0:=HA4.o.cell 0;simp at d0 a0
 by_cases hf:l.length=32∨x.se=18446744073709551615
 ·have e1:aC6 l x=9:=by unfold aC6;rw[if_neg (v6 hm),if_pos hf]
  have E:=yH (show aC6 l x=9∧aFw l x=0∧aFi l x=l∧aE5 l x=x.se from⟨e1,by unfold aFw;rw[e1];rfl,by unfold aFi;rw[e1];rfl,by unfold aE5;rw[e1];rfl⟩);clear e1
  by_cases h32:l.length=32
  ·have q1:((l.length:Int)==32)=true:=by rw[h32];rfl
   clear hf h32;go_wp2_with fail;refine bodyPost_ret (v:=.tuple #[.int .u64 0,.int .i64 9]) xP rfl ?_;rw[E.o.1,E.o.2.1,E.o.2.2.1,E.o.2.2.2];exact⟨rfl,_,HG4.o,pAD B3.o,aEj.refl _ _⟩
  have q1:((l.length:Int)==32)=false:=zU
  have hse:x.se=18446744073709551615:=by rcases hf with h|h;exact absurd h h32;exact h
  have q2:(x.se==18446744073709551615)=true:=v6 hse
  clear hf h32 hse;go_wp2_with fail;refine bodyPost_ret (v:=.tuple #[.int .u64 0,.int .i64 9]) xP rfl ?_;rw[E.o.1,E.o.2.1,E.o.2.2.1,E.o.2.2.2];exact⟨rfl,_,HG4.o,pAD B3.o,aEj.refl _ _⟩
 have e1:aC6 l x=0:=by unfold aC6;rw[if_neg (v6 hm),if_neg hf]
 have E:=yH (show aC6 l x=0∧aFw l x=x.se∧aFi l x=l++[x]∧aE5 l x=x.se+1 from⟨e1,by unfold aFw;rw[if_pos e1],by unfold aFi;rw[if_pos e1],by unfold aE5;rw[if_pos e1]⟩);have q1:((l.length:Int)==32)=false:=zU
 have q2:(x.se==18446744073709551615)=false:=zU
 have hn:=HI.o.n2;have hn1:=HI.o.n1;have hse1:x.se+1≤18446744073709551615:=zQ
 clear e1 hf;go_wp2_with fail;clear d0 a0;generalize w3=W at *;have hgl:=HG4.o.blk.lt;have d0:=HG4.o.blk.cell 0;simp at d0;have a0:=HA4.o.cell 0;have a1:=HA4.o.cell 1;have a2:=HA4.o.cell 2;have a3:=HA4.o.cell 3;have a4:=HA4.o.cell 4;have a5:=HA4.o.cell 5;have a6:=HA4.o.cell 6;simp at a0 a1 a2 a3 a4 a5 a6;have hbs:=Nat.le_trans HG4.o.ge (Nat.le_of_lt hgl)
 go_region_law (refine aHc rfl (.tmp 47) (.tmp 49) 156 rfl base 197 Tryz.underlying156 rfl aJn (.slice ao l.length cap) l rfl (aAg HG4.o.row (yZ.drew.alloc yL _)) W.heap.size 1 x rfl (Blk.new W.drew _ _) zQ zU ?_;intro v' w' ho hgr hat;have HAP:=yH (appended HG4.o ho hgr hat);have hB:=HAP.o.1;have d1:=hB.cell 0;have f1:=hB.frozen 0;have l1:=hB.lt;simp at d1;obtain⟨ao',cap',hv',_⟩:=aAh ho;obtain⟨ln,hln⟩:∃ln,(l++[x]).length=ln:=⟨_,rfl⟩;rw[hln]at hv';subst hv';clear hln;clear ho hgr hat hB d0)
 all_goals
  have HE:=yH HAP.o.2;clear HAP d1 f1 l1;have e0:=HE.o.1.blk.cell 1;have e1:=HE.o.1.blk.lt;have e2:=HE.o.1.blk.frozen 1;have e3:=HE.o.2.2 HA4.o HA4b.o;have e4:=e3.cell 0;simp at e0 e4;clear e3;go_wp2;refine bodyPost_ret (v:=.tuple #[.int .u64 x.se,.int .i64 0]) xP rfl ?_;have k3:Keep (·=g) (w'.setCell ⟨g,0,none⟩ (.slice ao' ln cap')) ((w'.setCell ⟨g,0,none⟩ (.slice ao' ln cap')).setCell ⟨g,1,none⟩ (.int .u64 (x.se+1))):=Keep.setCell (S:=(·=g)) (Keep.refl _ _) (p:=⟨g,1,none⟩) (.inl rfl) _;rw[E.o.1,E.o.2.1,E.o.2.2.1,E.o.2.2.2];exact⟨rfl,_,HE.o.1.setN _,(pAD B3.o).trans (HE.o.2.1.1.trans (k3.mono fun k _ hk=>.inl hk)),HE.o.2.1.2.of_le B3.o.size⟩
theorem aOn.next{ps:List Int}{ls:List Ln}{l:List Of}{N ow sl bu lf nu de:Int}{σ:SwS}{N' sq:Int}{τ:SwS}(h:aOn ps ls l N ow sl bu lf nu de σ N' sq τ):LInv ps σ.ls∧BInv σ.l N'∧σ.fs=τ.fs:=by
 rcases h.ends with⟨_,rfl,rfl,_⟩|⟨_,_,e,rfl,rfl,_⟩
 ·exact⟨h.inv.linv,h.inv.binv,rfl⟩
 refine⟨h.inv.linv,?_,rfl⟩;have q:=BInv.place (l:=τ.l) (x:=⟨N,ow,sl,bu,τ.n,nu,de⟩) h.inv.binv;unfold aFi aE5 at q;rw[if_pos e,if_pos e]at q;exact q
def noneF:Int→Int→Int:=fun _ _=>1048576
def costE(c:Int→Int→Int)(e:Ed):Int→Int→Int:=if okEd e then updE c e.fr e.tt (min (c e.fr e.tt) e.co)else c
structure aJs(es pre:List Ed)(c:Int→Int→Int):Prop where
 is:∀a b,c a b=1048576∨∃e∈es,okEd e∧e.fr=a∧e.tt=b∧c a b=e.co
 le:∀e∈pre,okEd e→c e.fr e.tt≤e.co
theorem aJs.init(es:List Ed):aJs es [] noneF:=⟨fun _ _=>.inl rfl,zV⟩
theorem aRi(c:Int→Int→Int)(a b n:Int):updE c a b n a b=n:=by unfold updE;rw[if_pos ⟨rfl,rfl⟩]
theorem aJs.step{es pre:List Ed}{c:Int→Int→Int}{e:Ed}(h:aJs es pre c)(he:e∈es):aJs es (pre++[e]) (costE c e):=by
 unfold costE;split
 ·rename_i ho;refine⟨fun a b=>?_,fun d hd hod=>?_⟩
  ·by_cases hab:a=e.fr∧b=e.tt
   ·obtain⟨rfl,rfl⟩:=hab;rw[aRi]
    by_cases hc:c e.fr e.tt≤e.co
    ·rw[Int.min_eq_left hc];exact h.is _ _
    rw[Int.min_eq_right zQ];exact .inr ⟨e,he,ho,rfl,rfl,rfl⟩
   unfold updE;rw[if_neg hab];exact h.is a b
  by_cases hde:d.fr=e.fr∧d.tt=e.tt
  ·rw[hde.1,hde.2,aRi];rcases List.mem_append.1 hd with hd|hd
   ·have:=h.le d hd hod;rw[hde.1,hde.2]at this;omega
   rw[List.mem_singleton]at hd;subst hd;omega
  unfold updE;rw[if_neg hde];rcases List.mem_append.1 hd with hd|hd
  ·exact h.le d hd hod
  rw[List.mem_singleton]at hd;subst hd;exact absurd ⟨rfl,rfl⟩ hde
 rename_i ho;refine⟨h.is,fun d hd hod=>?_⟩;rcases List.mem_append.1 hd with hd|hd
 ·exact h.le d hd hod
 rw[List.mem_singleton]at hd;subst hd;exact absurd hod ho
theorem aJs.bd{es pre:List Ed}{c:Int→Int→Int}(h:aJs es pre c)(hco:∀e∈es,-128≤e.co∧e.co≤127)(a b:Int):-128≤c a b∧c a b≤1048576:=by
 rcases h.is a b with hc|⟨e,he,_,_,_,hc⟩
 ·omega
 have:=hco e he;omega
def sumU(c:Int→Int→Int)(u:Nat→Int):Nat→Int
 | 0=>0
 | n+1=>sumU c u n+c (u n) (u (n+1))
structure aK7(c:Int→Int→Int)(L:List Int)(K:Nat)(u:Nat→Int):Prop where
 k1:1≤K
 k16:K≤16
 len:L.length=K
 at_:∀i,i<K→L[i]? = some (u i)
 back:u K=u 0
 ends:∀i,inP (u i)
 least:∀i,u 0≤u i
 apart:∀k i,k<i→i<K→u k≠u i
 cost:∀i,i<K → -128≤c (u i) (u (i+1))∧c (u i) (u (i+1))≤127
 all:sumU c u K<0
theorem aI1{es:List Ed}{c:Int→Int→Int}(hC:aJs es es c)(hco:∀e∈es,-128≤e.co∧e.co≤127)(h:aDo es≠[]):∃K u,aK7 c (aDo es) K u:=by
 obtain⟨K,l,_,_,_,hR,he⟩:=aMa h;have hk1:=hR.k1;rw[he];generalize aA5 es 16=s at *
 have hcost:∀i,i<K→c (itr s.ahd (K - i) l) (itr s.ahd (K - (i+1)) l)≤s.w (itr s.ahd (K - (i+1)) l) ∧ -128≤c (itr s.ahd (K - i) l) (itr s.ahd (K - (i+1)) l)∧c (itr s.ahd (K - i) l) (itr s.ahd (K - (i+1)) l)≤127:=fun i hi=>by
  obtain⟨e,hm,e1,e2,e3⟩:=hR.edge (K - (i+1));rw[show K - (i+1)+1=K - i by omega]at e1;have hok:okEd e:=⟨by rw[e1];exact hR.ends _,by rw[e2];exact hR.ends _⟩;have h1:=hC.le e hm hok;have h2:=hco e hm;rw[e1,e2]at h1;have h3:=hC.bd hco (itr s.ahd (K - i) l) (itr s.ahd (K - (i+1)) l);rw[←e3];omega
 refine⟨K,fun i=>itr s.ahd (K - i) l,hk1,hR.k16,uX backL_len,fun i hi=>?_,?_,fun i=>hR.ends _,fun i=>?_,fun k i hki hi=>?_,fun i hi=>(hcost i hi).2,?_⟩
 ·rw[backL_get (by rw[show K - 1+1=K by omega];exact hR.back) zQ];rw[show K - 1+1 - i=K - i by omega]
 ·show itr s.ahd (K - K) l=itr s.ahd (K - 0) l;rw[Nat.sub_self,Nat.sub_zero,hR.back];rfl
 ·show itr s.ahd (K - 0) l≤_;rw[Nat.sub_zero,hR.back];exact hR.least _
 ·exact fun hh=>aSx hR.back hR.apart (i:=K - i) (k:=K - k) zQ zQ zQ hh.symm
 have key:∀n,n≤K→sumU c (fun i=>itr s.ahd (K - i) l) n+sumI s.ahd s.w (K - n) l≤sumI s.ahd s.w K l:=by
  intro n
  induction n with
  | zero=>intro _;simp[sumU]
  | succ n ih=>
   intro hn;have h1:=ih zQ;have h2:=(hcost n zQ).1;have h3:=aJd s.ahd s.w (K - (n+1)) 1 l;rw[show K - (n+1)+1=K - n by omega]at h3;have h4:sumI s.ahd s.w 1 (itr s.ahd (K - (n+1)) l)=s.w (itr s.ahd (K - (n+1)) l):=by simp[sumI]
   show(sumU c (fun i=>itr s.ahd (K - i) l) n+c (itr s.ahd (K - n) l) (itr s.ahd (K - (n+1)) l))+_≤_;omega
 have h1:=key K yL;rw[Nat.sub_self]at h1;have h2:=hR.cost;have h3:sumI s.ahd s.w 0 l=0:=rfl;omega
def dbt(l:List Fw)(i:Nat):Fw:=l.getD i ⟨0,0,0⟩
def rdE(l:List Fw)(L:Nat→Int):Nat→List Ed
 | 0=>[]
 | k+1=>rdE l L k++((if 0<L k then [⟨(dbt l k).fr,(dbt l k).tt,-1⟩]else [])++(if L k<(dbt l k).am then [⟨(dbt l k).tt,(dbt l k).fr,1⟩]else []))
theorem aKo{l:List Fw}{L:Nat→Int}{e:Ed}:∀n,e∈rdE l L n↔∃i,i<n∧((0<L i∧e=⟨(dbt l i).fr,(dbt l i).tt,-1⟩)∨(L i<(dbt l i).am∧e=⟨(dbt l i).tt,(dbt l i).fr,1⟩))
 | 0=>by
  constructor
  ·intro h;cases h
  ·rintro⟨i,h,_⟩;omega
 | n+1=>by
  show e∈rdE l L n++_↔_;rw[List.mem_append,aKo n,List.mem_append]
  constructor
  ·rintro(⟨i,h1,h2⟩|h|h)
   ·exact⟨i,zQ,h2⟩
   ·split at h
    ·rename_i hc;exact⟨n,zQ,.inl ⟨hc,List.mem_singleton.1 h⟩⟩
    cases h
   split at h
   ·rename_i hc;exact⟨n,zQ,.inr ⟨hc,List.mem_singleton.1 h⟩⟩
   cases h
  rintro⟨i,h1,h2⟩
  by_cases hi:i=n
  ·subst hi;rcases h2 with⟨h3,rfl⟩|⟨h3,rfl⟩
   ·exact .inr (.inl vX)
   exact .inr (.inr vX)
  exact .inl ⟨i,zQ,h2⟩
theorem rdE_len(l:List Fw)(L:Nat→Int):∀n,(rdE l L n).length≤2*n
 | 0=>Nat.le_refl _
 | n+1=>by
  have:=rdE_len l L n;show(rdE l L n++_).length≤_;rw[List.length_append,List.length_append];have h1:(if 0<L n then [(⟨(dbt l n).fr,(dbt l n).tt,-1⟩:Ed)]else []).length≤1:=by split <;> simp
  have h2:(if L n<(dbt l n).am then [(⟨(dbt l n).tt,(dbt l n).fr,1⟩:Ed)]else []).length≤1:=by split <;> simp
  omega
theorem rdE_co(l:List Fw)(L:Nat→Int)(n:Nat):∀e∈rdE l L n,-128≤e.co∧e.co≤127:=by
 intro e he;obtain⟨i,_,⟨_,rfl⟩|⟨_,rfl⟩⟩:=(aKo n).1 he <;> (dsimp only;omega)
theorem aTy(es:List Ed):∃c,aJs es es c:=by
 have key:∀(suf pre:List Ed) (c:Int→Int→Int),aJs es pre c→es=pre++suf→∃c,aJs es es c:=by
  intro suf
  induction suf with
  | nil=>intro pre c h he;rw[List.append_nil]at he;exact⟨c,by rw[←he]at h;exact h⟩
  | cons e suf ih=>
   intro pre c h he;exact ih (pre++[e]) _ (h.step (e:=e) (by rw[he];simp)) (by rw[he];simp)
 exact key es [] _ (aJs.init es) rfl
theorem round_free{es:List Ed}(hco:∀e∈es,-128≤e.co∧e.co≤127)(far:Int→Int)(h:∀e∈es,okEd e→far e.tt≤far e.fr+e.co):aDo es=[]:=by
 refine Classical.byContradiction fun hne=>?_
 obtain⟨c,hC⟩:=aTy es;obtain⟨K,u,hu⟩:=aI1 hC hco hne
 have key:∀n,n≤K→far (u n)≤far (u 0)+sumU c u n:=by
  intro n
  induction n with
  | zero=>intro _;show far (u 0)≤far (u 0)+0;omega
  | succ n ih=>
   intro hn;have h1:=ih zQ;have h2:=hu.cost n zQ;show far (u (n+1))≤far (u 0)+(sumU c u n+c (u n) (u (n+1)));rcases hC.is (u n) (u (n+1))with h3|⟨e,he,ho,e1,e2,e3⟩
   ·omega
   have h4:=h e he ho;rw[e1,e2]at h4;omega
 have h1:=key K yL;have h2:=hu.all;rw[hu.back]at h1;omega
def okD(x:Fw):Prop:=inP x.fr∧inP x.tt∧x.fr≠x.tt∧1≤x.am∧x.am≤1099511627776
def keyD(x:Fw):Int:=256*x.fr+x.tt
instance(x:Fw):Decidable (okD x):=by unfold okD;infer_instance
def mayN(l:List Fw):Nat→Bool
 | 0=>true
 | k+1=>mayN l k && decide (okD (dbt l k)) && (decide (k=0) || decide (keyD (dbt l (k - 1))<keyD (dbt l k)))
structure MayD(l:List Fw):Prop where
 ok:∀i,i<l.length→okD (dbt l i)
 up:∀i,i+1<l.length→keyD (dbt l i)<keyD (dbt l (i+1))
theorem mayN_iff(l:List Fw):∀n,mayN l n=true↔(∀i,i<n→okD (dbt l i))∧∀i,i+1<n→keyD (dbt l i)<keyD (dbt l (i+1))
 | 0=>by simp[mayN]
 | n+1=>by
  unfold mayN;rw[Bool.and_eq_true,Bool.and_eq_true,mayN_iff l n,Bool.or_eq_true];simp only[decide_eq_true_eq]
  constructor
  ·rintro⟨⟨⟨h1,h2⟩,h3⟩,h4⟩;refine⟨fun i hi=>?_,fun i hi=>?_⟩
   ·by_cases hn:i=n
    ·subst hn;exact h3
    exact h1 i zQ
   by_cases hn:i+1=n
   ·subst hn;rcases h4 with h4|h4
    ·omega
    simpa using h4
   exact h2 i zQ
  rintro⟨h1,h2⟩;refine⟨⟨⟨fun i hi=>h1 i zQ,fun i hi=>h2 i zQ⟩,h1 n zQ⟩,?_⟩;rcases Nat.eq_zero_or_pos n with h|h
  ·exact .inl h
  right
  have:=h2 (n - 1) zQ
  rwa [Nat.sub_add_cancel h]at this
theorem mayD_iff(l:List Fw):mayN l l.length=true↔MayD l:=by
 rw[mayN_iff];exact⟨fun h=>⟨h.1,h.2⟩,fun h=>⟨h.ok,h.up⟩⟩
section
variable{l:List Fw}
theorem MayD.lt(h:MayD l){i:Nat}:∀d,i+d+1<l.length→keyD (dbt l i)<keyD (dbt l (i+d+1))
 | 0,hd=>h.up i hd
 | d+1,hd=>by
  have h1:=h.lt (i:=i) d zQ;have h2:=h.up (i+d+1) zQ;rw[show i+(d+1)+1=i+d+1+1 by omega];omega
theorem MayD.inj(h:MayD l){i j:Nat}(hi:i<l.length)(hj:j<l.length)(h1:(dbt l i).fr=(dbt l j).fr)(h2:(dbt l i).tt=(dbt l j).tt):i=j:=by
 have hk:keyD (dbt l i)=keyD (dbt l j):=by unfold keyD;rw[h1,h2]
 rcases Nat.lt_trichotomy i j with hl|hl|hl
 ·have:=h.lt (i:=i) (j - i - 1) zQ;rw[show i+(j - i - 1)+1=j by omega]at this;omega
 ·exact hl
 have:=h.lt (i:=j) (i - j - 1) zQ;rw[show j+(i - j - 1)+1=i by omega]at this;omega
end
def aLk(p:Nat→Bool):Nat→Option Nat
 | 0=>none
 | n+1=>if p n then some n else aLk p n
theorem aKp{p:Nat→Bool}:∀{n i:Nat},aLk p n=some i→i<n∧p i=true
 | 0,i,h=>y6
 | n+1,i,h=>by
  unfold aLk at h;split at h
  ·rename_i hp
   cases h
   exact⟨zQ,hp⟩
  obtain⟨h1,h2⟩:=aKp h;exact⟨zQ,h2⟩
theorem aOo{p:Nat→Bool}:∀{n:Nat},aLk p n=none→∀i,i<n→p i=false
 | 0,_,i,hi=>zQ
 | n+1,h,i,hi=>by
  unfold aLk at h;split at h
  ·cases h
  rename_i hp
  by_cases hin:i=n
  ·subst hin;simpa using hp
  exact aOo h i zQ
theorem aKq{p:Nat→Bool}{n i:Nat}(hi:i<n)(hp:p i=true)(hu:∀j,j<n→p j=true→j=i):aLk p n=some i:=by
 cases h:aLk p n with
 | none=>rw[aOo h i hi]at hp;cases hp
 | some j=>
  obtain⟨h1,h2⟩:=aKp h;rw[hu j h1 h2]
def pA(l:List Fw)(L:Nat→Int)(a b:Int)(i:Nat):Bool:=(dbt l i).fr==a && (dbt l i).tt==b && decide (0<L i)
def pB(l:List Fw)(a b:Int)(i:Nat):Bool:=(dbt l i).fr==b && (dbt l i).tt==a
def bkS(l:List Fw)(L:Nat→Int)(a b:Int):Bool:=(aLk (pA l L a b) l.length).isNone
def ixS(l:List Fw)(L:Nat→Int)(a b:Int):Nat:=match aLk (pA l L a b) l.length with
 | some i=>i
 | none=>(aLk (pB l a b) l.length).getD 0
def avS(l:List Fw)(L:Nat→Int)(a b:Int):Int:=if bkS l L a b then(dbt l (ixS l L a b)).am - L (ixS l L a b)else L (ixS l L a b)
def uW(W:List Int)(i:Nat):Int:=W.getD (i%W.length) 0
def minK(l:List Fw)(L:Nat→Int)(u:Nat→Int):Nat→Int
 | 0=>1099511627776
 | k+1=>min (minK l L u k) (avS l L (u k) (u (k+1)))
def updL(L:Nat→Int)(i:Nat)(v:Int):Nat→Int:=fun j=>if j=i then v else L j
def tkK(l:List Fw)(L:Nat→Int)(u:Nat→Int)(n:Int):Nat→(Nat→Int)
 | 0=>L
 | k+1=>updL (tkK l L u n k) (ixS l L (u k) (u (k+1))) (tkK l L u n k (ixS l L (u k) (u (k+1)))+(if bkS l L (u k) (u (k+1))then n else -n))
def wayD(l:List Fw)(L:Nat→Int):List Int:=aDo (rdE l L l.length)
def amtD(l:List Fw)(L:Nat→Int):Int:=minK l L (uW (wayD l L)) (wayD l L).length
def aKr(l:List Fw)(L:Nat→Int):Nat→Int:=tkK l L (uW (wayD l L)) (amtD l L) (wayD l L).length
theorem aK7.uW{c:Int→Int→Int}{W:List Int}{K:Nat}{u:Nat→Int}(h:aK7 c W K u):aK7 c W K (uW W):=by
 have hk:=h.k1;have hl:=h.len
 have e0:∀i,i<K→Go.Proofs.YtngnfdnfpiiclaaGreat.uW W i=u i:=fun i hi=>by
  unfold Go.Proofs.YtngnfdnfpiiclaaGreat.uW;rw[hl,Nat.mod_eq_of_lt hi,List.getD_eq_getElem?_getD,h.at_ i hi];rfl
 have e1:∀i,i≤K→Go.Proofs.YtngnfdnfpiiclaaGreat.uW W i=u i:=fun i hi=>by
  rcases Nat.lt_or_ge i K with h1|h1
  ·exact e0 i h1
  have:i=K:=zQ
  subst this;rw[h.back,←e0 0 hk];unfold Go.Proofs.YtngnfdnfpiiclaaGreat.uW;rw[hl,Nat.mod_self,Nat.zero_mod]
 have em:∀i,Go.Proofs.YtngnfdnfpiiclaaGreat.uW W i=u (i%K):=fun i=>by
  have hm:=Nat.mod_lt i (show 0<K by omega);rw[←e0 _ hm];unfold Go.Proofs.YtngnfdnfpiiclaaGreat.uW;rw[hl,Nat.mod_mod]
 refine⟨hk,h.k16,hl,fun i hi=>by rw[e0 i hi];exact h.at_ i hi,by rw[e1 K yL,e1 0 (Nat.zero_le _)];exact h.back,fun i=>by rw[em];exact h.ends _,fun i=>by rw[em i,em 0,Nat.zero_mod];exact h.least _,
  fun k i hki hi=>by rw[e0 k zQ,e0 i hi];exact h.apart k i hki hi,fun i hi=>by rw[e1 i zQ,e1 (i+1) zQ];exact h.cost i hi,?_⟩
 have key:∀n,n≤K→sumU c (Go.Proofs.YtngnfdnfpiiclaaGreat.uW W) n=sumU c u n:=by
  intro n
  induction n with
  | zero=>intro _;rfl
  | succ n ih=>
   intro hn;show sumU c (Go.Proofs.YtngnfdnfpiiclaaGreat.uW W) n+c _ _=sumU c u n+c _ _;rw[ih zQ,e1 n zQ,e1 (n+1) hn]
 rw[key K yL];exact h.all
def sumN(g:Nat→Int):Nat→Int
 | 0=>0
 | n+1=>sumN g n+g n
theorem aH0{g h:Nat→Int}:∀n,(∀i,i<n→g i=h i)→sumN g n=sumN h n
 | 0,_=>rfl
 | n+1,hh=>by
  show sumN g n+g n=sumN h n+h n;rw[aH0 n (fun i hi=>hh i zQ),hh n zQ]
theorem aPq(L:Nat→Int)(i:Nat)(v:Int)(f:Nat→Int→Int):∀n,sumN (fun j=>f j (updL L i v j)) n=sumN (fun j=>f j (L j)) n+if i<n then f i v - f i (L i)else 0
 | 0=>by simp[sumN]
 | n+1=>by
  show sumN (fun j=>f j (updL L i v j)) n+f n (updL L i v n)=(sumN (fun j=>f j (L j)) n+f n (L n))+_;rw[aPq L i v f n];unfold updL
  by_cases h:n=i
  ·subst h;rw[if_pos rfl,if_neg (Nat.lt_irrefl _),if_pos (Nat.lt_succ_self _)];omega
  rw[if_neg h]
  by_cases h2:i<n
  ·rw[if_pos h2,if_pos zQ];omega
  rw[if_neg h2,if_neg zQ];omega
theorem sumN_le{g h:Nat→Int}:∀n,(∀i,i<n→g i≤h i)→sumN g n≤sumN h n
 | 0,_=>Int.le_refl _
 | n+1,hh=>by
  have h1:=sumN_le n (fun i hi=>hh i zQ);have h2:=hh n zQ;show sumN g n+g n≤sumN h n+h n;omega
theorem aPr{g:Nat→Int}{B:Int}:∀n:Nat,(∀i,i<n→0≤g i∧g i≤B)→0≤sumN g n∧sumN g n≤B*n
 | 0,_=>by simp[sumN]
 | n+1,h=>by
  have h1:=aPr n (fun i hi=>h i zQ);have h2:=h n zQ;have h3:B*((n+1:Nat):Int)=B*(n:Int)+B:=by rw[Int.natCast_add,Int.mul_add];simp
  show 0≤sumN g n+g n∧sumN g n+g n≤_;omega
def psD(l:List Fw)(p:Int)(i:Nat)(n:Int):Int:=(if(dbt l i).tt=p then n else 0) - (if(dbt l i).fr=p then n else 0)
def posD(l:List Fw)(L:Nat→Int)(p:Int):Int:=sumN (fun i=>psD l p i (L i)) l.length
structure RdOk(l:List Fw)(L:Nat→Int):Prop where
 lo:∀i,i<l.length→0≤L i
 hi:∀i,i<l.length→L i≤(dbt l i).am
structure StD(l:List Fw)(L:Nat→Int)(c:Int→Int→Int)(a b:Int):Prop where
 ix:ixS l L a b<l.length
 is:(bkS l L a b=false∧(dbt l (ixS l L a b)).fr=a∧(dbt l (ixS l L a b)).tt=b∧0<L (ixS l L a b)∧c a b = -1)∨
  (bkS l L a b=true∧(dbt l (ixS l L a b)).fr=b∧(dbt l (ixS l L a b)).tt=a∧L (ixS l L a b)<(dbt l (ixS l L a b)).am∧c a b=1)
theorem step_is{l:List Fw}{L:Nat→Int}(hM:MayD l){c:Int→Int→Int}(hC:aJs (rdE l L l.length) (rdE l L l.length) c){a b:Int}(hc:c a b≤127):StD l L c a b:=by
 rcases hC.is a b with h|⟨e,he,ho,e1,e2,e3⟩
 ·omega
 by_cases hx:∃i,i<l.length∧pA l L a b i=true
 ·obtain⟨i,hi,hp⟩:=hx;have hp':=hp;unfold pA at hp';simp only[Bool.and_eq_true,beq_iff_eq,decide_eq_true_eq]at hp';obtain⟨⟨p1,p2⟩,p3⟩:=hp'
  have hl:=aKq hi hp (fun j hj hq=>by
   unfold pA at hq;simp only[Bool.and_eq_true,beq_iff_eq,decide_eq_true_eq]at hq;exact hM.inj hj hi (by rw[hq.1.1,p1]) (by rw[hq.1.2,p2]))
  have hix:ixS l L a b=i:=by unfold ixS;rw[hl]
  have hbk:bkS l L a b=false:=by unfold bkS;rw[hl];rfl
  have hle:=hC.le ⟨(dbt l i).fr,(dbt l i).tt,-1⟩ ((aKo _).2 ⟨i,hi,.inl ⟨p3,rfl⟩⟩) ⟨(hM.ok i hi).1,(hM.ok i hi).2.1⟩;rw[show(⟨(dbt l i).fr,(dbt l i).tt,-1⟩:Ed).fr=a from p1,show(⟨(dbt l i).fr,(dbt l i).tt,-1⟩:Ed).tt=b from p2]at hle
  have hco:c a b = -1:=by
   obtain⟨j,_,⟨_,rfl⟩|⟨_,rfl⟩⟩:=(aKo _).1 he
   ·exact e3
   have:c a b=1:=e3;have:(-1:Int) ≥ c a b:=hle;omega
  refine⟨by rw[hix];exact hi,.inl ⟨hbk,?_⟩⟩;rw[hix];exact⟨p1,p2,p3,hco⟩
 have hn:aLk (pA l L a b) l.length=none:=by
  cases h:aLk (pA l L a b) l.length with
  | none=>rfl
  | some i=>
   obtain⟨h1,h2⟩:=aKp h;exact absurd ⟨i,h1,h2⟩ hx
 have hbk:bkS l L a b=true:=by unfold bkS;rw[hn];rfl
 obtain⟨i,hi,⟨h1,rfl⟩|⟨h1,rfl⟩⟩:=(aKo _).1 he
 ·exact absurd ⟨i,hi,by unfold pA;simp only[Bool.and_eq_true,beq_iff_eq,decide_eq_true_eq];exact⟨⟨e1,e2⟩,h1⟩⟩ hx
 have hl:=aKq (p:=pB l a b) hi (by unfold pB;simp only[Bool.and_eq_true,beq_iff_eq];exact⟨e2,e1⟩) (fun j hj hq=>by
  unfold pB at hq;simp only[Bool.and_eq_true,beq_iff_eq]at hq;exact hM.inj hj hi (by rw[hq.1];exact e2.symm) (by rw[hq.2];exact e1.symm))
 have hix:ixS l L a b=i:=by unfold ixS;rw[hn,hl];rfl
 refine⟨by rw[hix];exact hi,.inr ⟨hbk,?_⟩⟩;rw[hix];exact⟨e2,e1,h1,e3⟩
theorem StD.av{l:List Fw}{L:Nat→Int}{c:Int→Int→Int}{a b:Int}(h:StD l L c a b):1≤avS l L a b:=by
 unfold avS;rcases h.is with⟨h1,_,_,h2,_⟩|⟨h1,_,_,h2,_⟩
 ·rw[h1];simp only[Bool.false_eq_true,if_false];omega
 rw[h1,if_pos rfl];omega
theorem aKs(l:List Fw)(L:Nat→Int)(u:Nat→Int):∀K,minK l L u K≤1099511627776∧∀k,k<K→minK l L u K≤avS l L (u k) (u (k+1))
 | 0=>⟨Int.le_refl _,fun k hk=>zQ⟩
 | K+1=>by
  obtain⟨h1,h2⟩:=aKs l L u K;refine⟨by show min _ _≤_;omega,fun k hk=>?_⟩;show min (minK l L u K) (avS l L (u K) (u (K+1)))≤_
  by_cases hkK:k=K
  ·subst hkK;exact Int.min_le_right _ _
  have:=h2 k zQ;omega
theorem aPs(l:List Fw)(L:Nat→Int)(u:Nat→Int):∀K,(∀k,k<K→1≤avS l L (u k) (u (k+1)))→1≤minK l L u K
 | 0,_=>by show(1:Int)≤1099511627776;decide
 | K+1,h=>by
  have h1:=aPs l L u K (fun k hk=>h k zQ);have h2:=h K zQ;show 1≤min _ _;omega
theorem aM8{l:List Fw}{L:Nat→Int}(hM:MayD l){c:Int→Int→Int}{W:List Int}{K:Nat}{u:Nat→Int}(hu:aK7 c W K u)(hS:∀k,k<K→StD l L c (u k) (u (k+1))){j k:Nat}(hj:j<k)(hk:k<K):
  ixS l L (u j) (u (j+1))≠ixS l L (u k) (u (k+1)):=by
 intro he;have s1:=(hS j zQ).is;have s2:=(hS k hk).is;rw[he]at s1;have hne:=hu.apart j k hj hk;rcases s1 with⟨_,a1,a2,_,a3⟩|⟨_,a1,a2,_,a3⟩ <;> rcases s2 with⟨_,b1,b2,_,b3⟩|⟨_,b1,b2,_,b3⟩
 ·exact hne (a1.symm.trans b1)
 ·-- forth at j,back at k
  have e1:u j=u (k+1):=a1.symm.trans b1;have e2:u (j+1)=u k:=a2.symm.trans b2
  have hj1:j+1=k:=by
   rcases Nat.lt_or_ge (j+1) k with q|q
   ·exact absurd e2 (hu.apart (j+1) k q hk)
   omega
  have hk1:k+1=K:=by
   rcases Nat.lt_or_ge (k+1) K with q|q
   ·exact absurd e1 (hu.apart j (k+1) zQ q)
   omega
  have hj0:j=0:=by
   rcases Nat.eq_zero_or_pos j with q|q
   ·exact q
   rw[hk1,hu.back]at e1;exact absurd e1.symm (hu.apart 0 j q zQ)
  subst hj0;have hall:=hu.all;rw[←hk1,←hj1]at hall;have:sumU c u (0+1+1)=0+c (u 0) (u (0+1))+c (u (0+1)) (u (0+1+1)):=rfl;rw[←hj1]at b3;omega
 ·have e1:u (j+1)=u k:=a1.symm.trans b1;have e2:u j=u (k+1):=a2.symm.trans b2
  have hj1:j+1=k:=by
   rcases Nat.lt_or_ge (j+1) k with q|q
   ·exact absurd e1 (hu.apart (j+1) k q hk)
   omega
  have hk1:k+1=K:=by
   rcases Nat.lt_or_ge (k+1) K with q|q
   ·exact absurd e2 (hu.apart j (k+1) zQ q)
   omega
  have hj0:j=0:=by
   rcases Nat.eq_zero_or_pos j with q|q
   ·exact q
   rw[hk1,hu.back]at e2;exact absurd e2.symm (hu.apart 0 j q zQ)
  subst hj0;have hall:=hu.all;rw[←hk1,←hj1]at hall;have:sumU c u (0+1+1)=0+c (u 0) (u (0+1))+c (u (0+1)) (u (0+1+1)):=rfl;rw[←hj1]at b3;omega
 exact hne (a2.symm.trans b2)
structure TkI(l:List Fw)(L:Nat→Int)(c:Int→Int→Int)(u:Nat→Int)(n:Int)(k:Nat)(M:Nat→Int):Prop where
 off:∀i,(∀j,j<k→ixS l L (u j) (u (j+1))≠i)→M i=L i
 on:∀j,j<k→M (ixS l L (u j) (u (j+1)))=L (ixS l L (u j) (u (j+1)))+if bkS l L (u j) (u (j+1))then n else -n
 sum:sumN M l.length=sumN L l.length+n*sumU c u k
 pos:∀p,posD l M p=posD l L p+(if u 0=p then n else 0) - (if u k=p then n else 0)
theorem tk_all{l:List Fw}{L:Nat→Int}(hM:MayD l){c:Int→Int→Int}{W:List Int}{K:Nat}{u:Nat→Int}(hu:aK7 c W K u)(hS:∀k,k<K→StD l L c (u k) (u (k+1)))(n:Int):∀k,k≤K→TkI l L c u n k (tkK l L u n k)
 | 0,_=>⟨fun i _=>rfl,fun j hj=>zQ,by show sumN L l.length=_+n*0;rw[Int.mul_zero,Int.add_zero],fun p=>by show posD l L p=_;omega⟩
 | k+1,hk=>by
  have ih:=tk_all hM hu hS n k zQ;have st:=hS k zQ;have hap:∀j,j<k→ixS l L (u j) (u (j+1))≠ixS l L (u k) (u (k+1)):=fun j hj=>aM8 hM hu hS hj zQ
  have hat:=ih.off _ hap;have hsum:sumU c u (k+1)=sumU c u k+c (u k) (u (k+1)):=rfl;refine⟨fun i hi=>?_,fun j hj=>?_,?_,fun p=>?_⟩
  ·show updL _ _ _ i=_;unfold updL;rw[if_neg (fun h=>hi k zQ h.symm)];exact ih.off i (fun j hj=>hi j zQ)
  ·show updL _ _ _ _=_;unfold updL
   by_cases hjk:j=k
   ·subst hjk;rw[if_pos rfl,hat]
   rw[if_neg (hap j zQ)];exact ih.on j zQ
  ·show sumN (updL (tkK l L u n k) _ _) l.length=_;have:=aPq (tkK l L u n k) (ixS l L (u k) (u (k+1))) (tkK l L u n k (ixS l L (u k) (u (k+1)))+(if bkS l L (u k) (u (k+1))then n else -n)) (fun _ x=>x) l.length;rw[if_pos st.ix]at this;rw[show sumN (updL (tkK l L u n k) (ixS l L (u k) (u (k+1))) (tkK l L u n k (ixS l L (u k) (u (k+1)))+(if bkS l L (u k) (u (k+1))then n else -n))) l.length=_ from this,show sumN (fun j=>tkK l L u n k j) l.length=_ from ih.sum,hsum,Int.mul_add];rcases st.is with⟨h1,_,_,_,h2⟩|⟨h1,_,_,_,h2⟩
   ·rw[h1,h2];simp only[Bool.false_eq_true,if_false];omega
   rw[h1,h2,if_pos rfl];omega
  show posD l (updL (tkK l L u n k) _ _) p=_;have:=aPq (tkK l L u n k) (ixS l L (u k) (u (k+1))) (tkK l L u n k (ixS l L (u k) (u (k+1)))+(if bkS l L (u k) (u (k+1))then n else -n)) (psD l p) l.length;rw[if_pos st.ix]at this;rw[show posD l (updL (tkK l L u n k) (ixS l L (u k) (u (k+1))) (tkK l L u n k (ixS l L (u k) (u (k+1)))+(if bkS l L (u k) (u (k+1))then n else -n))) p=_ from this,show sumN (fun j=>psD l p j (tkK l L u n k j)) l.length=_ from ih.pos p];generalize tkK l L u n k (ixS l L (u k) (u (k+1)))=y;unfold psD;rcases st.is with⟨h1,h3,h4,_,h2⟩|⟨h1,h3,h4,_,h2⟩
  ·rw[h1,h3,h4];simp only[Bool.false_eq_true,if_false];split <;> split <;> omega
  rw[h1,h3,h4,if_pos rfl];split <;> split <;> omega
structure NextD(l:List Fw)(L M:Nat→Int):Prop where
 ok:RdOk l M
 sum:sumN M l.length+1≤sumN L l.length
 pos:∀p,posD l M p=posD l L p
theorem next_is{l:List Fw}{L:Nat→Int}(hM:MayD l)(hL:RdOk l L)(h:wayD l L≠[]):NextD l L (aKr l L)∧∃c K,aJs (rdE l L l.length) (rdE l L l.length) c∧(wayD l L).length=K∧aK7 c (wayD l L) K (uW (wayD l L))∧(∀k,k<K→StD l L c (uW (wayD l L) k) (uW (wayD l L) (k+1)))∧TkI l L c (uW (wayD l L)) (amtD l L) K (aKr l L)∧1≤amtD l L:=by
 obtain⟨c,hC⟩:=aTy (rdE l L l.length);obtain⟨K,u0,hu0⟩:=aI1 hC (rdE_co l L l.length) h;have hu:=hu0.uW;have hl:(wayD l L).length=K:=hu.len
 change aK7 c (wayD l L) K (uW (wayD l L))at hu
 have hS:∀k,k<K→StD l L c (uW (wayD l L) k) (uW (wayD l L) (k+1)):=fun k hk=>step_is hM hC (hu.cost k hk).2
 have hn1:1≤amtD l L:=by
  unfold amtD;rw[hl];exact aPs _ _ _ _ fun k hk=>(hS k hk).av
 have hle:=(aKs l L (uW (wayD l L)) K).2
 have hT:TkI l L c (uW (wayD l L)) (amtD l L) K (aKr l L):=by
  have:=tk_all hM hu hS (amtD l L) K yL;unfold aKr;rw[hl];exact this
 refine⟨⟨⟨fun i hi=>?_,fun i hi=>?_⟩,?_,fun p=>?_⟩,c,K,hC,hl,hu,hS,hT,hn1⟩
 ·by_cases hx:∃j,j<K∧ixS l L (uW (wayD l L) j) (uW (wayD l L) (j+1))=i
  ·obtain⟨j,hj,rfl⟩:=hx;rw[hT.on j hj];have h1:=hle j hj;have h2:=hL.lo _ hi;unfold amtD at hn1 ⊢;rw[hl]at hn1 ⊢;unfold avS at h1;split
   ·omega
   rename_i hb;rw[if_neg hb]at h1;omega
  rw[hT.off i (fun j hj e=>hx ⟨j,hj,e⟩)];exact hL.lo i hi
 ·by_cases hx:∃j,j<K∧ixS l L (uW (wayD l L) j) (uW (wayD l L) (j+1))=i
  ·obtain⟨j,hj,rfl⟩:=hx;rw[hT.on j hj];have h1:=hle j hj;have h2:=hL.hi _ hi;unfold amtD at hn1 ⊢;rw[hl]at hn1 ⊢;unfold avS at h1;split
   ·rename_i hb;rw[if_pos hb]at h1;omega
   omega
  rw[hT.off i (fun j hj e=>hx ⟨j,hj,e⟩)];exact hL.hi i hi
 ·have h1:=hT.sum;have h2:=hu.all;have h3:amtD l L*sumU c (uW (wayD l L)) K≤amtD l L*(-1):=Int.mul_le_mul_of_nonneg_left zQ zQ;omega
 have h1:=hT.pos p;rw[hu.back]at h1;omega
def amD(l:List Fw):Nat→Int:=fun i=>(dbt l i).am
def itD(l:List Fw):Nat→(Nat→Int)
 | 0=>amD l
 | k+1=>aKr l (itD l k)
structure aJt(l:List Fw)(k:Nat)(L:Nat→Int):Prop where
 at_:L=itD l k
 ok:RdOk l L
 sum:(k:Int)+sumN L l.length≤sumN (amD l) l.length
 pos:∀p,posD l L p=posD l (amD l) p
 go:∀j,j<k→wayD l (itD l j)≠[]
theorem aJt.start{l:List Fw}(h:MayD l):aJt l 0 (amD l):=
 ⟨rfl,⟨fun i hi=>by have:=(h.ok i hi).2.2.2.1;show 0≤(dbt l i).am;omega,fun i hi=>Int.le_refl _⟩,zV,fun p=>rfl,fun j hj=>zQ⟩
theorem aJt.step{l:List Fw}{k:Nat}{L:Nat→Int}(hM:MayD l)(h:aJt l k L)(hn:wayD l L≠[]):aJt l (k+1) (aKr l L):=by
 obtain⟨hx,_⟩:=next_is hM h.ok hn;refine⟨by rw[h.at_];rfl,hx.ok,?_,fun p=>by rw[hx.pos,h.pos],fun j hj=>?_⟩
 ·have:=hx.sum;have:=h.sum;rw[Int.natCast_add];omega
 by_cases hjk:j=k
 ·subst hjk;rw[←h.at_];exact hn
 exact h.go j zQ
structure aHd(l:List Fw)(L:Nat→Int)(k:Nat):Prop where
 inv:aJt l k L
 done:wayD l L=[]
theorem aHd.eq{l:List Fw}{L M:Nat→Int}{k j:Nat}(h:aHd l L k)(g:aHd l M j):k=j∧L=M:=by
 have hkj:k=j:=by
  rcases Nat.lt_trichotomy k j with q|q|q
  ·have:=g.inv.go k q;rw[←h.inv.at_]at this;exact absurd h.done this
  ·exact q
  have:=h.inv.go j q;rw[←g.inv.at_]at this;exact absurd g.done this
 subst hkj;exact⟨rfl,by rw[h.inv.at_,g.inv.at_]⟩
theorem aJt.k_le{l:List Fw}{k:Nat}{L:Nat→Int}(h:aJt l k L):(k:Int)≤sumN (amD l) l.length:=by
 have h1:=h.sum;have h2:=(aPr (g:=L) (B:=0) 0 (fun i hi=>zQ)).1
 have h3:0≤sumN L l.length:=by
  have:=sumN_le (g:=fun _=>0) (h:=L) l.length (fun i hi=>h.ok.lo i hi);have hz:∀n,sumN (fun _=>0) n=0:=fun n=>by induction n with|zero=>rfl|succ n ih=>show sumN _ n+0=0;rw[ih];rfl
  rw[hz]at this;exact this
 omega
theorem aOp{l:List Fw}(hM:MayD l):∃L k,aHd l L k:=by
 have key:∀n:Nat,(∃L k,aHd l L k)∨(∃L,aJt l n L∧wayD l L≠[]):=by
  intro n
  induction n with
  | zero=>
   by_cases hd:wayD l (amD l)=[]
   ·exact .inl ⟨_,0,aJt.start hM,hd⟩
   ·exact .inr ⟨_,aJt.start hM,hd⟩
  | succ n ih=>
   rcases ih with h1|⟨L,h1,h2⟩
   ·exact .inl h1
   have h3:=h1.step hM h2
   by_cases hd:wayD l (aKr l L)=[]
   ·exact .inl ⟨_,n+1,h3,hd⟩
   exact .inr ⟨_,h3,hd⟩
 rcases key ((sumN (amD l) l.length).toNat+1)with h1|⟨L,h1,_⟩
 ·exact h1
 have:=h1.k_le;omega
theorem am_bd{l:List Fw}(hM:MayD l):0≤sumN (amD l) l.length∧sumN (amD l) l.length≤1099511627776*(l.length:Int):=
 aPr l.length fun i hi=>⟨by have:=(hM.ok i hi).2.2.2.1;show 0≤(dbt l i).am;omega,(hM.ok i hi).2.2.2.2⟩
def uR(W:List Int)(k:Nat):Int:=uW W (k+W.length - 1)
theorem uW_add(W:List Int)(k:Nat):uW W (k+W.length)=uW W k:=by
 unfold uW;rw[Nat.add_mod_right]
theorem aHe(W:List Int)(k:Nat):uR W (k+1)=uW W k:=by
 unfold uR;rw[show k+1+W.length - 1=k+W.length by omega];exact uW_add W k
theorem uR_zero{W:List Int}(h:0<W.length):uR W 0=uW W (W.length - 1):=by
 unfold uR;rw[show 0+W.length - 1=W.length - 1 by omega]
def sgm(K:Nat):Nat→Nat
 | 0=>K - 1
 | k+1=>k
theorem aK8{K k:Nat}(h:k<K):sgm K k<K:=by
 cases k with
 | zero=>show K - 1<K;omega
 | succ k=>show k<K;omega
theorem sgm_ne{K j k:Nat}(hj:j<k)(hk:k<K):sgm K j≠sgm K k:=by
 cases k with
 | zero=>omega
 | succ k=>
  cases j with
  | zero=>show K - 1≠k;omega
  | succ j=>show j≠k;omega
theorem aCb{W:List Int}(h:0<W.length)(k:Nat):uR W k=uW W (sgm W.length k)∧uR W (k+1)=uW W (sgm W.length k+1):=by
 cases k with
 | zero=>
  refine⟨uR_zero h,?_⟩;rw[aHe];show uW W 0=uW W (W.length - 1+1);rw[show W.length - 1+1=0+W.length by omega,uW_add]
 | succ k=>exact⟨aHe W k,aHe W (k+1)⟩
theorem aTz{l:List Fw}{L:Nat→Int}{u:Nat→Int}{x:Int}(h0:x≤1099511627776):∀K,(∀k,k<K→x≤avS l L (u k) (u (k+1)))→x≤minK l L u K
 | 0,_=>h0
 | K+1,h=>by
  have h1:=aTz h0 K (fun k hk=>h k zQ);have h2:=h K zQ;show x≤min _ _;omega
theorem minK_rot{l:List Fw}{L:Nat→Int}{W:List Int}(h:0<W.length):minK l L (uR W) W.length=minK l L (uW W) W.length:=by
 obtain⟨a1,a2⟩:=aKs l L (uR W) W.length;obtain⟨b1,b2⟩:=aKs l L (uW W) W.length
 have h1:minK l L (uW W) W.length≤minK l L (uR W) W.length:=aTz b1 _ fun k hk=>by
  rw[(aCb h k).1,(aCb h k).2];exact b2 _ (aK8 hk)
 have h2:minK l L (uR W) W.length≤minK l L (uW W) W.length:=aTz a1 _ fun k hk=>by
  by_cases hk1:k+1<W.length
  ·have:=a2 (k+1) hk1;rw[aHe,aHe]at this;exact this
  have hk2:k=W.length - 1:=zQ
  have:=a2 0 h;rw[(aCb h 0).1,(aCb h 0).2]at this;rw[hk2];exact this
 omega
theorem tk_gen{l:List Fw}{L:Nat→Int}{s:Nat→Int}{n:Int}{K:Nat}(hap:∀j k,j<k→k<K→ixS l L (s j) (s (j+1))≠ixS l L (s k) (s (k+1))):
  ∀k,k≤K→(∀i,(∀j,j<k→ixS l L (s j) (s (j+1))≠i)→tkK l L s n k i=L i)∧(∀j,j<k→tkK l L s n k (ixS l L (s j) (s (j+1)))=L (ixS l L (s j) (s (j+1)))+if bkS l L (s j) (s (j+1))then n else -n)
 | 0,_=>⟨fun i _=>rfl,fun j hj=>zQ⟩
 | k+1,hk=>by
  obtain⟨ih1,ih2⟩:=tk_gen hap k zQ;have hat:=ih1 _ (fun j hj=>hap j k hj zQ);refine⟨fun i hi=>?_,fun j hj=>?_⟩
  ·show updL _ _ _ i=_;unfold updL;rw[if_neg (fun h=>hi k zQ h.symm)];exact ih1 i (fun j hj=>hi j zQ)
  show updL _ _ _ _=_;unfold updL
  by_cases hjk:j=k
  ·subst hjk;rw[if_pos rfl,hat]
  rw[if_neg (hap j k zQ zQ)];exact ih2 j zQ
theorem tk_rot{l:List Fw}{L:Nat→Int}{W:List Int}{n:Int}(h:0<W.length)(hap:∀j k,j<k→k<W.length→ixS l L (uW W j) (uW W (j+1))≠ixS l L (uW W k) (uW W (k+1))):tkK l L (uR W) n W.length=tkK l L (uW W) n W.length:=by
 have hap2:∀j k,j<W.length→k<W.length→j≠k→ixS l L (uW W j) (uW W (j+1))≠ixS l L (uW W k) (uW W (k+1)):=fun j k hj hk hjk=>by
  rcases Nat.lt_or_ge j k with q|q
  ·exact hap j k q hk
  exact(hap k j zQ hj).symm
 have hapR:∀j k,j<k→k<W.length→ixS l L (uR W j) (uR W (j+1))≠ixS l L (uR W k) (uR W (k+1)):=fun j k hj hk=>by
  rw[(aCb h j).1,(aCb h j).2,(aCb h k).1,(aCb h k).2];exact hap2 _ _ (aK8 zQ) (aK8 hk) (sgm_ne hj hk)
 obtain⟨a1,a2⟩:=tk_gen (n:=n) hapR W.length yL;obtain⟨b1,b2⟩:=tk_gen (n:=n) hap W.length yL
 funext i
 by_cases hx:∃j,j<W.length∧ixS l L (uR W j) (uR W (j+1))=i
 ·obtain⟨j,hj,rfl⟩:=hx;rw[a2 j hj,(aCb h j).1,(aCb h j).2,b2 _ (aK8 hj)]
 rw[a1 i (fun j hj e=>hx ⟨j,hj,e⟩),b1 i (fun j hj e=>?_)]
 by_cases hj1:j+1<W.length
 ·exact hx ⟨j+1,hj1,by rw[aHe,aHe];exact e⟩
 have hj2:j=W.length - 1:=zQ
 refine hx ⟨0,h,?_⟩;rw[(aCb h 0).1,(aCb h 0).2];rw[hj2]at e;exact e
structure CanI(l:List Fw)(L:Nat→Int)(c:Int→Int→Int)(W:List Int)(n:Int):Prop where
 k1:1≤W.length
 k16:W.length≤16
 st:∀k,k<W.length→StD l L c (uR W k) (uR W (k+1))
 apart:∀j k,j<k→k<W.length→ixS l L (uR W j) (uR W (j+1))≠ixS l L (uR W k) (uR W (k+1))
 least:minK l L (uR W) W.length=n
 next:tkK l L (uR W) n W.length=aKr l L
 n1:1≤n
 n9:n≤1099511627776
 n_le:∀k,k<W.length→n≤avS l L (uR W k) (uR W (k+1))
 at_:∀k,(h:k<W.length)→W[k]=uR W (k+1)
 last:∀h:W.length - 1<W.length,W[W.length - 1]=uR W 0
 ends:∀k,1≤uR W k∧uR W k≤16
theorem can_of{l:List Fw}{L:Nat→Int}(hM:MayD l)(hL:RdOk l L)(h:wayD l L≠[]):∃c,CanI l L c (wayD l L) (amtD l L):=by
 obtain⟨_,c,K,hC,hK,hu,hS,hT,h1⟩:=next_is hM hL h;subst hK;have hap:∀j k,j<k→k<(wayD l L).length→ixS l L (uW (wayD l L) j) (uW (wayD l L) (j+1))≠ixS l L (uW (wayD l L) k) (uW (wayD l L) (k+1)):=fun j k hj hk=>aM8 hM hu hS hj hk
 have h0:0<(wayD l L).length:=hu.k1;obtain⟨m1,m2⟩:=aKs l L (uW (wayD l L)) (wayD l L).length
 have hat:∀k,(hk:k<(wayD l L).length)→(wayD l L)[k]=uW (wayD l L) k:=fun k hk=>by
  unfold uW;rw[Nat.mod_eq_of_lt hk,List.getD_eq_getElem?_getD,List.getElem?_eq_getElem hk];rfl
 refine⟨c,hu.k1,hu.k16,fun k hk=>?_,fun j k hj hk=>?_,minK_rot h0,tk_rot h0 hap,h1,m1,fun k hk=>?_,fun k hk=>?_,fun hk=>?_,fun k=>?_⟩
 ·rw[(aCb h0 k).1,(aCb h0 k).2];exact hS _ (aK8 hk)
 ·rw[(aCb h0 j).1,(aCb h0 j).2,(aCb h0 k).1,(aCb h0 k).2];rcases Nat.lt_or_ge (sgm (wayD l L).length j) (sgm (wayD l L).length k)with q|q
  ·exact hap _ _ q (aK8 hk)
  have:=sgm_ne hj hk;exact(hap _ _ zQ (aK8 zQ)).symm
 ·rw[(aCb h0 k).1,(aCb h0 k).2];exact m2 _ (aK8 hk)
 ·rw[hat k hk,aHe]
 ·rw[hat _ hk,uR_zero h0]
 have:=hu.ends (k+(wayD l L).length - 1);unfold inP at this;exact this
theorem aGe{l:List Fw}{i:Nat}(h:i<l.length):dbt l i=l[i]:=by unfold dbt;simp[h]
def aFo(w:World)(ao:Option Addr)(l:List Fw):Prop:=
 0<l.length→∃b off,ao=some ⟨b,off,none⟩∧b<w.heap.size∧∀m,m<l.length→w.cell? ⟨b,off+m*3,none⟩=some (.int .u8 (dbt l m).fr)∧w.cell? ⟨b,off+m*3+1,none⟩=some (.int .u8 (dbt l m).tt)∧w.cell? ⟨b,off+m*3+2,none⟩=some (.int .i64 (dbt l m).am)
theorem aT0{w:World}{ao:Option Addr}{cap:Nat}{l:List Fw}(h:aB4 w (.slice ao l.length cap) 3 l.length (aAp l)):aFo w ao l:=by
 obtain⟨ao',cap',hv,_,_,hcell⟩:=h
 cases hv
 intro h0;obtain⟨b,off,h1,h2,h3⟩:=hcell h0;refine⟨b,off,h1,h2,fun m hm=>?_⟩;rw[aGe hm];refine⟨?_,?_,?_⟩
 ·have:=h3 (m*3+0) zQ;rw[aCn l m 0 zQ hm,show off+(m*3+0)=off+m*3 by omega]at this;exact this
 ·have:=h3 (m*3+1) zQ;rw[aCn l m 1 zQ hm,show off+(m*3+1)=off+m*3+1 by omega]at this;exact this
 have:=h3 (m*3+2) zQ;rw[aCn l m 2 zQ hm,show off+(m*3+2)=off+m*3+2 by omega]at this;exact this
theorem aFo.below{w w':World}{ao:Option Addr}{l:List Fw}(h:aFo w ao l)(hb:Below w.heap.size w w'):aFo w' ao l:=by
 intro h0;obtain⟨b,off,h1,h2,h3⟩:=h h0;refine⟨b,off,h1,yM h2 hb.size,fun m hm=>?_⟩;obtain⟨a1,a2,a3⟩:=h3 m hm;exact⟨(hb.cell (p:=⟨b,off+m*3,none⟩) h2).trans a1,(hb.cell (p:=⟨b,off+m*3+1,none⟩) h2).trans a2,(hb.cell (p:=⟨b,off+m*3+2,none⟩) h2).trans a3⟩
def aJu(l:List Fw):Prop:=∀m,m<l.length→(0≤(dbt l m).fr∧(dbt l m).fr≤255)∧(0≤(dbt l m).tt∧(dbt l m).tt≤255) ∧ -9223372036854775808≤(dbt l m).am∧(dbt l m).am≤9223372036854775807
theorem aHf(l:List Fw)(k:Nat):mayN l (k+1)=(mayN l k && decide (okD (dbt l k)) && (decide (k=0) || decide (keyD (dbt l (k - 1))<keyD (dbt l k)))):=rfl
theorem aM9{l:List Fw}:∀{n:Nat} (k:Nat),k≤n→mayN l k=false→mayN l n=false
 | 0,k,hk,h=>by
  have:k=0:=zQ
  subst this;exact h
 | n+1,k,hk,h=>by
  by_cases hkn:k=n+1
  ·subst hkn;exact h
  rw[aHf,aM9 k zQ h];rfl
theorem aA2{P:Program}(w:World){ops:Array Oper}{rest:List Oper}{o:Oper}{a:Act}{Q:Exit→Act→World→Prop}(hgd:o.guard=none)(s x:Operand)(t e:TypeId)
  (ho:o.op=.call { callee:=.builtin .append,args:=#[s,x],argTypes:=#[t,t] }){z:Value}{sz by':Nat}(ht:P.underlying t=some (.slice e))(hinf:(P.info? e).map (fun i=>(i.zero,i.size,i.bytes))=some (some z,sz,by'))(hzs:z.cells.size=sz)(h0:0<sz)(hby:by'≤1000)
  (base:Nat)(v:Value)(n:Nat)(xs:List Value)(hs:a.eval s=v)(hown:w.ownsRow base e sz v n xs)(g c:Nat)(vs:List Value)(hvs:vs.length=sz)(hx:a.eval x=.slice (some ⟨g,0,none⟩) 1 c)(hy:Blk w g vs.toArray e)(h1:∀u∈vs,u.oneCell'=true)(hlen:n≤100000)(hbase:base≤w.heap.size)
  (h:∀v' w',w'.ownsRow base e sz v' (n+1) (xs++vs)→w.grownBy w' v.ownBlock→wpList P ops Q rest (a.put o.dst v') w'):wpList P ops Q (o::rest) a w:=by
 obtain⟨i0,hi,hz0,hz1,hz2⟩:=info_parts hinf;refine wpList_append_own w hgd s x t ho base e i0 z sz by' ht hi hz0 hz1 hz2 hzs h0 v n xs hs hown ⟨g,0,none⟩ 1 c vs hx (uX hvs) ?_ h1 zE ?_ hbase ?_
 ·intro j u hj;rw[Go.WideShapes.add_plain,Nat.zero_add,hy.cell j];simpa using hj
 ·refine Nat.le_trans (Nat.mul_le_mul_left _ hby) ?_;omega
 intro v' w' h2 h3 _;exact h v' w' h2 h3
theorem aGf{B:Nat}{w w1 w2:World}{o:Obj}{row:Option Nat}(h:Below B w w1)(hB:B≤w1.heap.size)(hg:(w1.alloc o).grownBy w2 row)(hr:∀k,row=some k→B≤k):Below B w w2:=
 (h.alloc hB o).grown hg zU hr
end Go.Proofs.YtngnfdnfpiiclaaGreat
namespace Go.Proofs.YtngnfdnfpiiclaaGreat
open Go.RowKit Go.ChangeShapes Go.WideShapes Go.Deep
def Ed.val(x:Ed):Value:=.agg #[.int .u8 x.fr,.int .u8 x.tt,.int .i8 x.co]
theorem aD5(a b:List Ed):aCo (a++b)=aCo a++aCo b:=by unfold aCo;exact List.flatMap_append
theorem aGg(x:Ed):aCo [x]=x.vals:=by simp[aCo]
section
variable{H:Type}{enc:TypeId×Value→H}{P:Program}{w:World}{base:Nat}{spare:Nat→Bool}{held:Bool}
end
theorem aPt:(Tryz.prog.info? 377).map (fun i=>(i.zero,i.size,i.bytes))=some (some (Ed.val ⟨0,0,0⟩),3,3):=zW
section
variable{H:Type}{enc:TypeId×Value→H}{w:World}{base:Nat}{spare:Nat→Bool}{held:Bool}
end
theorem SlIn.edges{w:World}{a:Option Addr}{len cap:Nat}{xs:List Ed}(h:SlIn Ed.vals 3 Ed.Fits w a len cap xs)(hn:len≤100000000):aB4 w (.slice a xs.length cap) 3 xs.length (aCo xs):=by
 obtain⟨h0,hl,hk,h1,h2,h3⟩:=h;subst hl;refine⟨a,cap,rfl,hn,aS7 xs,fun hp=>?_⟩;obtain⟨b,off,ha,hb,hc⟩:=h3 hp;refine⟨b,off,ha,hb,fun j hj=>?_⟩;have hjd:j/3<xs.length:=zQ
 have h4:=aMm xs (j/3) (j%3) zQ hjd;rw[show j/3*3+j%3=j by omega]at h4;have hv:(xs[j/3].vals)[j%3]? = some (xs[j/3].vals[j%3]'(by rw[Ed.vals_len];omega)):=List.getElem?_eq_getElem _;have h5:=hc (j/3) hjd (j%3) _ hv;rw[show off+j/3*3+j%3=off+j by omega]at h5;rw[h5,h4,hv]
end Go.Proofs.YtngnfdnfpiiclaaGreat
namespace Go.Proofs.YtngnfdnfpiiclaaGreat
open Go.RowKit
def srC(far ahd:Int→Int):Array Value:=ltA far++ahA ahd
theorem aFj(far ahd:Int→Int):(srC far ahd).size=34:=by unfold srC;rw[Array.size_append,aLp,aFg]
theorem aI2(far ahd:Int→Int){i:Nat}(h:i<17):(srC far ahd)[i]? = some (.int .i64 (far i)):=by
 unfold srC;rw[Array.getElem?_append_left (by rw[aLp];exact h),ltA_get far h]
theorem aGh(far ahd:Int→Int){i:Nat}(h:i<17):(srC far ahd)[17+i]? = some (.int .u8 (ahd i)):=by
 unfold srC;rw[Array.getElem?_append_right (uX aLp),aLp,Nat.add_sub_cancel_left,aMn ahd h]
theorem srC_setFar(far ahd:Int→Int){i:Nat}(hi:i<17)(n:Int):(srC far ahd).setIfInBounds i (.int .i64 n)=srC (upI far i n) ahd:=by
 apply Array.ext_getElem?;intro j
 by_cases e:i=j
 ·subst e;rw[Array.getElem?_setIfInBounds_self_of_lt wC,aI2 _ _ hi,aC8]
 rw[Array.getElem?_setIfInBounds_ne e]
 by_cases hj:j<17
 ·rw[aI2 _ _ hj,aI2 _ _ hj,aEl _ zQ]
 by_cases hj2:j<34
 ·have:=aGh far ahd (i:=j - 17) zQ;have h2:=aGh (upI far i n) ahd (i:=j - 17) zQ;rw[show 17+(j - 17)=j by omega]at this h2;rw[this,h2]
 rw[Array.getElem?_eq_none wC,Array.getElem?_eq_none wC]
theorem srC_setAhd(far ahd:Int→Int){i:Nat}(hi:i<17)(n:Int):(srC far ahd).setIfInBounds (17+i) (.int .u8 n)=srC far (upI ahd i n):=by
 apply Array.ext_getElem?;intro j
 by_cases e:17+i=j
 ·subst e;rw[Array.getElem?_setIfInBounds_self_of_lt wC,aGh _ _ hi,aC8]
 rw[Array.getElem?_setIfInBounds_ne e]
 by_cases hj:j<17
 ·rw[aI2 _ _ hj,aI2 _ _ hj]
 by_cases hj2:j<34
 ·have:=aGh far ahd (i:=j - 17) zQ;have h2:=aGh far (upI ahd i n) (i:=j - 17) zQ;rw[aEl _ zQ]at h2;rw[show 17+(j - 17)=j by omega]at this h2;rw[this,h2]
 rw[Array.getElem?_eq_none wC,Array.getElem?_eq_none wC]
attribute [irreducible] srC
theorem Blk.srFar{w:World}{g:Nat}{far ahd:Int→Int}{t:TypeId}(h:Blk w g (srC far ahd) t){p:Int}(h0:0≤p)(h1:p<17):w.cell? ⟨g,p.toNat,none⟩=some (.int .i64 (far p)):=by
 rw[h.cell,aI2 _ _ zQ,Int.toNat_of_nonneg h0]
theorem Blk.srAhd{w:World}{g:Nat}{far ahd:Int→Int}{t:TypeId}(h:Blk w g (srC far ahd) t){p:Int}(h0:0≤p)(h1:p<17):w.cell? ⟨g,17+p.toNat,none⟩=some (.int .u8 (ahd p)):=by
 rw[h.cell,aGh _ _ zQ,Int.toNat_of_nonneg h0]
theorem pAJ{w:World}{g:Nat}{far ahd:Int→Int}{t:TypeId}(h:Blk w g (srC far ahd) t){p:Int}(h0:0≤p)(h1:p<17)(n:Int):Blk (w.setCell ⟨g,p.toNat,none⟩ (.int .i64 n)) g (srC (upI far p n) ahd) t:=by
 have:=h.set p.toNat (.int .i64 n);rw[srC_setFar _ _ zQ,Int.toNat_of_nonneg h0]at this;exact this
theorem pAK{w:World}{g:Nat}{far ahd:Int→Int}{t:TypeId}(h:Blk w g (srC far ahd) t){p:Int}(h0:0≤p)(h1:p<17)(n:Int):Blk (w.setCell ⟨g,17+p.toNat,none⟩ (.int .u8 n)) g (srC far (upI ahd p n)) t:=by
 have:=h.set (17+p.toNat) (.int .u8 n);rw[srC_setAhd _ _ zQ,Int.toNat_of_nonneg h0]at this;exact this
def ShrtAt(w:World)(g:Nat)(es:List Ed)(k:Nat)(lv i:Value)(wr:World):Prop:=
 ∃(j:Nat) (s:BF),j≤es.length∧i=.int .i64 j∧Hid (s=(es.take j).foldl (aEh (k+1)) { aA5 es k with pt:=0 })∧lv=.int .u8 s.pt∧Blk wr g (srC s.far s.ahd) 399∧Below g w wr
theorem aT1{w:World}{g k:Nat}{ao:Option Addr}{cap:Nat}{es:List Ed}(h:Blk w g (srC (aA5 es k).far (aA5 es k).ahd) 399)(hk:k<16)(hfit:∀e∈es,e.Fits)(hln:es.length≤600)
  (hes:0<es.length→∃b off,ao=some ⟨b,off,none⟩∧b<g∧∀m,(hm:m<es.length)→∀j,j<3→w.cell? ⟨b,off+m*3+j,none⟩=es[m].vals[j]?):
  Calls Tryz.prog 309 #[.pointer (some ⟨g,0,none⟩),.slice ao es.length cap] w fun e w'=>e=.returned (.int .u8 (aA5 es (k+1)).pt)∧Blk w' g (srC (aA5 es (k+1)).far (aA5 es (k+1)).ahd) 399∧Below g w w':=by
 have K0:=yH h;have HF:=yH hfit;have HC:=yH hes;have HB:=yH (passN_bd (es:=es) (fun e he=>(hfit e he).co.1) k);have CM:=yH (fun p (w:World)=>aMo p w);clear h hfit hes;go_enter Tryz.func309,Tryz.ntmps309;go_wp2_with fail
 go_loopw [5,11] (ShrtAt w g es k) (fun _ i _=>es.length - (intOf i).toNat)
 case atStart=>exact⟨0,_,zQ,rfl,yH rfl,rfl,K0.o,yZ⟩
 clear K0;obtain⟨j,s,hj,rfl,hs,rfl,hF,hB⟩:=hrel;have KS:=yH hF;have BB:=yH hB;clear hF hB
 by_cases hjl:j<es.length
 ·obtain⟨b,off,rfl,hbg,hcell⟩:=HC.o zQ;have d0:=(BB.o.cell (p:=⟨b,off+j*3,none⟩) hbg).trans (hcell j hjl 0 zQ);have d1:=(BB.o.cell (p:=⟨b,off+j*3+1,none⟩) hbg).trans (hcell j hjl 1 zQ);have d2:=(BB.o.cell (p:=⟨b,off+j*3+2,none⟩) hbg).trans (hcell j hjl 2 zQ);simp only[Ed.vals,List.getElem?_cons_zero,List.getElem?_cons_succ]at d0 d1 d2;have hfx:=HF.o es[j] (List.getElem_mem hjl)
  have hfold:(es.take (j+1)).foldl (aEh (k+1)) { aA5 es k with pt:=0 }=aEh (k+1) s es[j]:=by
   rw[List.take_succ_eq_append_getElem hjl,List.foldl_append,←hs.out];rfl
  have hbd:=far_bd (es:=es) (fun e he=>(HF.o e he).co.1) (n:=k+1) (es.take j) { aA5 es k with pt:=0 } (k*es.length) (fun e he=>List.mem_of_mem_take he) HB.o;rw[←hs.out]at hbd
  have hm:k*es.length+(es.take j).length≤9600:=by
   have h1:(es.take j).length≤j:=zU
   have h2:k*es.length≤15*es.length:=Nat.mul_le_mul_right _ zQ;omega
  have HBD:Hid (∀p,-1228800≤s.far p∧s.far p≤0):=yH fun p=>uV (hbd p)
  have HFD:=yH hfold;generalize es[j]=x at *;obtain⟨fr,tt,co⟩:=x;dsimp only at d0 d1 d2;obtain⟨⟨f0,f9⟩,⟨t0,t9⟩,⟨c0,c9⟩⟩:=hfx;dsimp only at f0 f9 t0 t9 c0 c9;have KX:=yH (Blk.new wr #[.int .u8 fr,.int .u8 tt,.int .i8 co] 377);have KS2:=yH (KS.o.alloc (.cells #[.int .u8 fr,.int .u8 tt,.int .i8 co] 377));have hgr:g<wr.heap.size:=KS.o.lt;have BB2:=yH (BB.o.alloc (Nat.le_of_lt hgr) (.cells #[.int .u8 fr,.int .u8 tt,.int .i8 co] 377));have CF:=yH (CM.o fr (wr.alloc (.cells #[.int .u8 fr,.int .u8 tt,.int .i8 co] 377)));have CT:=yH (CM.o tt (wr.alloc (.cells #[.int .u8 fr,.int .u8 tt,.int .i8 co] 377)));clear hcell hfold hbd hm hs KS BB
  by_cases o1:inP fr
  ·rw[aBa o1]at CF
   by_cases o2:inP tt
   ·rw[aBa o2]at CT;have o1':=o1;have o2':=o2;obtain⟨p1,p2⟩:=o1';obtain⟨p3,p4⟩:=o2';obtain⟨df,hdf⟩:∃df,s.far fr=df:=⟨_,rfl⟩;obtain⟨dt,hdt⟩:∃dt,s.far tt=dt:=⟨_,rfl⟩;have HDF:=yH hdf;have HDT:=yH hdt;have b1:=HBD.o fr;have b2:=HBD.o tt;have kf:=KS2.o.srFar (p:=fr) zQ zQ;have kt:=KS2.o.srFar (p:=tt) zQ zQ;rw[hdf]at b1 kf;rw[hdt]at b2 kt;obtain⟨b3,b4⟩:=b1;obtain⟨b5,b6⟩:=b2;clear hdf hdt;go_wp2_with fail;refine CF.o.mono ?_;rintro e w1 ⟨rfl,rfl⟩;clear CF;go_wp2_with fail;refine CT.o.mono ?_;rintro e w1 ⟨rfl,rfl⟩;clear CT;go_wp2_with fail;generalize hW:wr.alloc (.cells #[.int .u8 fr,.int .u8 tt,.int .i8 co] 377)=W at *;generalize wr.heap.size=X at *;clear hW d0 d1 d2;have e0:=KX.o.cell 0;have e1:=KX.o.cell 1;have e2:=KX.o.cell 2;simp at e0 e1 e2
    by_cases hless:df+co<dt
    ·have cless:decide (df+co<dt)=true:=v6 hless
     have NX:Hid ((⟨upI s.far tt (df+co),upI s.ahd tt fr,tt,fun p=>if p=tt then k+1 else s.t p,upI s.w tt co⟩:BF)=(es.take (j+1)).foldl (aEh (k+1)) { aA5 es k with pt:=0 }):=yH (by
      rw[HFD.o];unfold aEh;rw[if_pos ⟨⟨o1,o2⟩,by show s.far fr+co<s.far tt;rw[HDF.o,HDT.o];exact hless⟩];dsimp only;rw[HDF.o])
     have ft:=KS2.o.frozen tt.toNat;have ka:=KS2.o.srAhd (p:=tt) zQ zQ;have fa:=KS2.o.frozen (17+tt.toNat);clear hless
     go_quiet (fail)
     go_wp2
     go_quiet (fail)
     go_wp2
     go_region
     all_goals
      go_wp2
      go_region
      all_goals
       go_wp2;go_roundw
       case rel=>
        refine⟨j+1,_,zQ,by go_num,NX,rfl,?_,?_⟩
        ·refine pAK ?_ zQ zQ _;refine pAJ ?_ zQ zQ _;exact KS2.o
        refine Below.drew ?_;refine Below.setCell (p:=⟨g,17+tt.toNat,none⟩) ?_ (Nat.le_refl g) _;refine Below.setCell (p:=⟨g,tt.toNat,none⟩) ?_ (Nat.le_refl g) _;exact⟨BB2.o.os,BB2.o.tape,BB2.o.output,BB2.o.size,BB2.o.block⟩
       case measure=>simp[intOf];omega
    have cless:decide (df+co<dt)=false:=v6 hless
    have NX:Hid (s=(es.take (j+1)).foldl (aEh (k+1)) { aA5 es k with pt:=0 }):=yH (by
     rw[HFD.o];unfold aEh;rw[if_neg (fun h=>hless (by have:=h.2;rw[HDF.o,HDT.o]at this;exact this))])
    clear hless
    go_quiet (fail)
    go_wp2
    go_quiet (fail)
    go_wp2;go_roundw
    case rel=>exact⟨j+1,s,zQ,by go_num,NX,rfl,KS2.o,⟨BB2.o.os,BB2.o.tape,BB2.o.output,BB2.o.size,BB2.o.block⟩⟩
    case measure=>simp[intOf];omega
   rw[aDf o2]at CT
   have NX:Hid (s=(es.take (j+1)).foldl (aEh (k+1)) { aA5 es k with pt:=0 }):=yH (by
    rw[HFD.o];unfold aEh;rw[if_neg (fun h=>o2 h.1.2)])
   clear o1 o2;go_wp2_with fail;refine CF.o.mono ?_;rintro e w1 ⟨rfl,rfl⟩;clear CF;go_wp2_with fail;refine CT.o.mono ?_;rintro e w1 ⟨rfl,rfl⟩;clear CT;go_wp2_with fail;go_roundw
   case rel=>exact⟨j+1,s,zQ,by go_num,NX,rfl,KS2.o,BB2.o⟩
   case measure=>simp[intOf];omega
  rw[aDf o1]at CF
  have NX:Hid (s=(es.take (j+1)).foldl (aEh (k+1)) { aA5 es k with pt:=0 }):=yH (by
   rw[HFD.o];unfold aEh;rw[if_neg (fun h=>o1 h.1.1)])
  clear o1 CT;go_wp2_with fail;refine CF.o.mono ?_;rintro e w1 ⟨rfl,rfl⟩;clear CF;go_wp2_with fail;go_roundw
  case rel=>exact⟨j+1,s,zQ,by go_num,NX,rfl,KS2.o,BB2.o⟩
  case measure=>simp[intOf];omega
 have hjj:es.take j=es:=List.take_of_length_le zQ;rw[hjj]at hs;have hE:s=aA5 es (k+1):=hs.out;subst hE;clear hs hjj;go_wp2_with fail;go_ret;exact⟨rfl,KS.o,BB.o⟩
theorem aT2:(∀w,(zeroValue 399).run Tryz.prog w=.ok (.agg (srC (fun _=>0) (fun _=>0))) w)∧(Tryz.prog.info? 399).map (·.size)=some 34:=by
 have h:srC (fun _=>0) (fun _=>0)=#[.int .i64 0,.int .i64 0,.int .i64 0,.int .i64 0,.int .i64 0,.int .i64 0,.int .i64 0,.int .i64 0,.int .i64 0,.int .i64 0,.int .i64 0,.int .i64 0,.int .i64 0,.int .i64 0,.int .i64 0,.int .i64 0,.int .i64 0,
   .int .u8 0,.int .u8 0,.int .u8 0,.int .u8 0,.int .u8 0,.int .u8 0,.int .u8 0,.int .u8 0,.int .u8 0,.int .u8 0,.int .u8 0,.int .u8 0,.int .u8 0,.int .u8 0,.int .u8 0,.int .u8 0,.int .u8 0]:=by
  apply Array.ext (by rw[aFj];rfl);intro i h1 h2;have h34:i<34:=by rw[aFj]at h1;exact h1
  have e:(srC (fun _=>0) (fun _=>0))[i]=if i<17 then .int .i64 0 else .int .u8 0:=by
   have q:(srC (fun _=>0) (fun _=>0))[i]? = some (if i<17 then Value.int .i64 0 else .int .u8 0):=by
    by_cases hi:i<17
    ·rw[aI2 _ _ hi,if_pos hi]
    have:=aGh (fun _=>0) (fun _=>0) (i:=i - 17) zQ;rw[show 17+(i - 17)=i by omega]at this;rw[this,if_neg hi]
   rw[Array.getElem?_eq_getElem h1]at q;simpa using q
  rw[e];have hi:i=0∨i=1∨i=2∨i=3∨i=4∨i=5∨i=6∨i=7∨i=8∨i=9∨i=10∨i=11∨i=12∨i=13∨i=14∨i=15∨i=16∨i=17∨i=18∨i=19∨i=20∨i=21∨i=22∨i=23∨i=24∨i=25∨i=26∨i=27∨i=28∨i=29∨i=30∨i=31∨i=32∨i=33:=zQ
  rcases hi with rfl|rfl|rfl|rfl|rfl|rfl|rfl|rfl|rfl|rfl|rfl|rfl|rfl|rfl|rfl|rfl|rfl|rfl|rfl|rfl|rfl|rfl|rfl|rfl|rfl|rfl|rfl|rfl|rfl|rfl|rfl|rfl|rfl|rfl <;> rfl
 rw[h];exact zero_of_info zW
theorem roundW_go{es:List Ed}(h:∀n,n<16→(aA5 es (n+1)).pt≠0):aDo es≠[]:=by
 unfold aDo;rw[if_pos (List.all_eq_true.2 fun n hn=>by simpa using h n (v6 hn))];unfold roundL aQp;simp
theorem aOq{f:Int→Int}{p x:Int}{n:Nat}:x∈aDg f p n↔∃i,i<n∧itr f i p=x:=by unfold aDg;simp
theorem aRj{f:Int→Int}{l:Int}{K:Nat}(h1:1≤K)(hK:itr f K l=l):aDg f (f l) K=aQp f l (K - 1):=by
 obtain⟨n,rfl⟩:∃n,K=n+1:=⟨K - 1,zQ⟩;rw[aMl];show itr f (n+1) l::_=_;rw[hK];rfl
theorem least_is{f:Int→Int}{a m:Int}{K:Nat}(h1:1≤K)(hm:m∈aDg f a K)(hle:∀x∈aDg f a K,m≤x):m=aH9 f a (K - 1):=by
 obtain⟨i,i1,i2⟩:=aKa f a (K - 1);obtain⟨j,j1,j2⟩:=aOq.1 hm;have a1:=hle (aH9 f a (K - 1)) (aOq.2 ⟨i,zQ,i2.symm⟩);have a2:=aL9 f a (K - 1) j zQ;omega
def RdAt(w:World)(es:List Ed)(lv i:Value)(wr:World):Prop:=
 ∃k:Nat,k<16∧i=.int .i64 ((k:Int)+1)∧(∀j,j<k→(aA5 es (j+1)).pt≠0)∧Blk wr w.heap.size (srC (aA5 es k).far (aA5 es k).ahd) 399∧Below w.heap.size w wr
def HpAt(w:World)(s:BF)(lv i:Value)(wr:World):Prop:=
 ∃j:Nat,j≤16∧i=.int .i64 j∧lv=.int .u8 (itr s.ahd j s.pt)∧Blk wr w.heap.size (srC s.far s.ahd) 399∧Below w.heap.size w wr
theorem pround_any{w:World}{ao:Option Addr}{cap:Nat}{es:List Ed}(hr:aB4 w (.slice ao es.length cap) 3 es.length (aCo es))(hfit:∀e∈es,e.Fits)(hln:es.length≤600):
  Calls Tryz.prog 283 #[.slice ao es.length cap] w (aMi 68 (aDo es) w):=by
 obtain⟨ao',cap',hv,_,_,hcell⟩:=hr
 cases hv
 have HC:Hid (0<es.length→∃b off,ao=some ⟨b,off,none⟩∧b<w.heap.size∧∀m,(hm:m<es.length)→∀j,j<3→w.cell? ⟨b,off+m*3+j,none⟩=es[m].vals[j]?):=yH fun h0=>by
  obtain⟨b,off,h1,h2,h3⟩:=hcell h0;refine⟨b,off,h1,h2,fun m hm j hj=>?_⟩;have:=h3 (m*3+j) zQ;rw[aMm es m j hj hm]at this;rw[←this,Nat.add_assoc]
 have HF:=yH hfit;clear hcell hfit;have hz:=aT2.1;have B0:=yH ((Below.refl w.heap.size w).alloc yL (.cells (srC (fun _=>0) (fun _=>0)) 399));have K0:=yH (Blk.new w (srC (fun _=>0) (fun _=>0)) 399);go_enter Tryz.func283,Tryz.ntmps283;go_wp2_with fail
 go_step3
 go_wp2_with fail
 go_step3
 go_wp2_with fail
 go_loopw [4,5] (RdAt w es) (fun _ i _=>17 - (intOf i).toNat)
 case atStart=>exact⟨0,zQ,rfl,fun j h=>zQ,K0.o,B0.o⟩
 clear K0 B0 hz;obtain⟨k,hk,rfl,hall,hK,hB⟩:=hrel;have KS:=yH hK;have BB:=yH hB;have HALL:=yH hall;clear hK hB hall
 have CS:=yH (aT1 (cap:=cap) KS.o hk HF.o hln (fun h0=>by
  obtain⟨b,off,h1,h2,h3⟩:=HC.o h0;exact⟨b,off,h1,h2,fun m hm j hj=>(BB.o.cell (p:=⟨b,off+m*3+j,none⟩) h2).trans (h3 m hm j hj)⟩))
 go_wp2_with fail;refine CS.o.mono ?_;rintro e w1 ⟨rfl,hK1,hB1⟩;have KS1:=yH hK1;have B1:=yH (BB.o.trans hB1);clear hK1 hB1 CS KS BB
 by_cases hpt:(aA5 es (k+1)).pt=0
 ·have q0:((aA5 es (k+1)).pt==0)=true:=v6 hpt
  have HL:=yH (aS8 hk hpt);clear hpt;generalize (aA5 es (k+1)).pt=pt at *;go_wp2_with fail;rw[Exit.noGoto_ret];refine bodyPost_ret (v:=.slice none 0 0) (by simp[results,Tryz.results283,go_sem]) rfl ?_;rw[HL.o];exact⟨_,rfl,⟨rfl,.inl ⟨rfl,rfl⟩⟩,B1.o⟩
 have q0:((aA5 es (k+1)).pt==0)=false:=v6 hpt
 have HALL1:Hid (∀j,j<k+1→(aA5 es (j+1)).pt≠0):=yH fun j hj=>by
  by_cases e:j=k
  ·subst e;exact hpt
  exact HALL.o j zQ
 clear hpt HALL
 by_cases hk15:k=15
 ·subst hk15;have hne:=roundW_go (fun n hn=>HALL1.o n zQ);obtain⟨K,l,hK,hl,hin,hR,hW⟩:=aMa hne;have hpt16:(aA5 es 16).pt≠0:=HALL1.o 15 zQ;have HFND:=yH (aIi hpt16).1;have HCY:=yH (aQo (aIi hpt16).2);have KS2:Hid (Blk w1 w.heap.size (srC (aA5 es 16).far (aA5 es 16).ahd) 399):=yH KS1.o;have q1:((aA5 es 16).pt==0)=false:=q0;have E15:(aA5 es (15+1)).pt=(aA5 es 16).pt:=rfl;clear q0 hne hpt16 HALL1 KS1;simp only[E15];have HIN:=yH hin;have HR:=yH hR;have HW:=yH hW;have HK:=yH hK;have HL:=yH hl;clear hin hR hW E15 hK hl;generalize aA5 es 16=s at *;go_wp2_with fail
  go_loopw [4,17] (HpAt w s) (fun _ i _=>16 - (intOf i).toNat)
  case atStart=>exact⟨0,zQ,rfl,rfl,KS2.o,B1.o⟩
  clear KS2 B1;obtain⟨j,hj,rfl,rfl,hK1,hB1⟩:=hrel;have KS:=yH hK1;have BB:=yH hB1;have hgl:=hK1.lt;clear hK1 hB1
  by_cases hj16:j<16
  ·obtain⟨x1,x2⟩:=HFND.o j zQ;have IS:=yH (aC9 s.ahd j s.pt);generalize itr s.ahd j s.pt=x at *;have dk:=KS.o.srAhd (p:=x) zQ zQ;have hji:(j:Int)<16:=zQ
   go_wp2_with fail;go_roundw
   case rel=>exact⟨j+1,zQ,by go_num,by rw[IS.o],KS.o,BB.o⟩
   case measure=>simp[intOf];omega
  obtain rfl:j=16:=zQ
  obtain⟨c1,c2,c3,c4⟩:=HCY.o;have e1:=HK.o;have e2:=HL.o;have hin:=HIN.o;generalize itr s.ahd 16 s.pt=a at *;rw[←e1]at c1 c2 c3 c4
  have CT:=yH (aKd (w:=wr) (g:=w.heap.size) (off:=17) (ah:=s.ahd) (p:=a) (n:=K) hgl (fun c hc=>by rw[KS.o.cell,aGh _ _ hc]) (fun i _=>hin i)
   (fun i j hij hj=>by
    rcases Nat.eq_zero_or_pos i with h0|h0
    ·subst h0;exact fun e=>c4 j zQ hj e.symm
    exact aSx c3 c4 h0 hij zQ) (.inr ⟨0,zQ,c3.symm⟩) c1 c2)
  have LM:Hid (∀m,m∈aDg s.ahd a K→(∀x∈aDg s.ahd a K,m≤x)→m=l):=yH fun m h1 h2=>by rw[least_is c1 h1 h2,e2]
  have LL:=yH (aOd s.ahd a K);generalize aDg s.ahd a K=L at *;have C1:=yH c1;have C2:=yH c2;clear c1 c2 c3 c4 e1 e2 hin HFND HCY HK HL HIN;go_wp2_with fail;refine CT.o.mono ?_;rintro e w2 ⟨v1,rfl,hrow,hb2⟩;have KS2:=yH (KS.o.below hb2 hgl);have B2:=yT BB hb2;have CM:=yH (minP_any (hrow.reads (by rw[LL.o];have:=C2.o;omega)) (by rw[LL.o];have:=C1.o;omega));clear CT hrow hb2 KS BB;go_wp2_with fail;refine CM.o.mono ?_;rintro e w3 ⟨m,rfl,hm1,hm2,rfl⟩;obtain rfl:=LM.o m hm1 hm2;obtain⟨m1,m2⟩:=HR.o.ends 0;have m1:1≤m:=m1;have m2:m≤16:=m2;have dk:=KS2.o.srAhd (p:=m) zQ zQ;have hg3:=KS2.o.lt
  have CT:=yH (aKd (w:=w3) (g:=w.heap.size) (off:=17) (ah:=s.ahd) (p:=s.ahd m) (n:=K) hg3 (fun c hc=>by rw[KS2.o.cell,aGh _ _ hc]) (fun i _=>HR.o.ends (i+1))
   (fun i j hij hj=>aSx HR.o.back HR.o.apart (i:=i+1) (k:=j+1) zQ zQ zQ) (.inr ⟨0,uV C1.o,by
    show s.ahd m=itr s.ahd (K+1) m;rw[aC9,HR.o.back]⟩) C1.o C2.o)
  rw[aRj C1.o HR.o.back,←HW.o]at CT;clear CM hm1 hm2 LM LL;generalize aDo es=R at *;generalize s.ahd m=y at *;go_wp2_with fail;refine CT.o.mono ?_;rintro e w4 ⟨v2,rfl,hrow,hb4⟩;have R4:=yH (hrow.base (b':=w.heap.size) (Nat.le_of_lt hg3));have B4:=yT B2 hb4;clear CT hrow hb4;go_wp2_with fail;rw[Exit.noGoto_ret];refine bodyPost_ret (v:=v2) (by simp[results,Tryz.results283,go_sem]) rfl ?_;exact⟨v2,rfl,R4.o,B4.o⟩
 have hk2:((k:Int)+1==16)=false:=zU
 generalize (aA5 es (k+1)).pt=pt at *;go_wp2_with fail;go_roundw
 case rel=>exact⟨k+1,zQ,by go_num,HALL1.o,KS1.o,B1.o⟩
 case measure=>simp[intOf];omega
end Go.Proofs.YtngnfdnfpiiclaaGreat
