/- Pieces of one proof. -/
import Derived.Test.YtaeocliklpcgmaaGreatV16
import Derived.Maps.AppendAt
import Derived.Deep.RegionLaw
import Derived.Laws.AppendOwnNone
import Derived.Deep.RegionWith
set_option linter.all false
set_option maxHeartbeats 64000000
set_option maxRecDepth 100000
namespace Go.Proofs.YtaeocliklpcgmaaGreat
open Go.RowKit
theorem aEr{P:Program}{ops:Array Oper}{o:Oper}{a:Act}{w:World}{K:Act→World→Prop}{Q:Exit→Act→World→Prop}{E:Prop}
  (hg:o.guard=none)(s x:Operand)(t:TypeId)(hop:o.op=Op.call { callee:=Callee.builtin Builtin.append,args:=#[s,x],argTypes:=#[t,t] })
  (base:Nat)(e:TypeId){z:Value}(ht:P.underlying t=some (.slice e))(hz0:z.cells.size=7)(hi:(P.info? e).map (fun i=>(i.zero,i.size,i.bytes))=some (some z,7,40))(v:Value)(l:List Of)(hs:a.eval s=v)(hown:w.ownsRow base e 7 v l.length (aAa l))
  (g c:Nat)(y:Of)(hx:a.eval x=.slice (some ⟨g,0,none⟩) 1 c)(hy:Blk w g #[.int .u64 y.se,.int .u8 y.ow,.int .u8 y.sl,.int .u8 y.bu,.int .i64 y.lf,.int .i64 y.nu,.int .i64 y.de] e)(hlen:l.length≤100000)(hbase:base≤w.heap.size)
  (hK:∀v' w',w'.ownsRow base e 7 v' (l++[y]).length (aAa (l++[y]))→w.grownBy w' v.ownBlock→(v'.ownBlock=v.ownBlock∨v'.ownBlock=some w.heap.size)→K (a.put o.dst v') w'):
  if Region.wanted o (yielded ops a.tmps)=true then Oper.wp P o a w K Q else E:=by
 have hw:Region.wanted o (yielded ops a.tmps)=true:=by simp[Region.wanted,hg]
 rw[if_pos hw];obtain⟨i0,hi1,hi2,hi3,hi4⟩:=info_parts hi
 obtain⟨v',w',hr,h2,h3,_,h5⟩:=run_append_own_at (P:=P) w base t o.type e i0 z 7 40 ht hi1 hi2 hi3 hi4 hz0 (by decide) v l.length (aAa l) hown ⟨g,0,none⟩ 1 c y.vals rfl (fun j u hj=>by
   have:=hy.cell j;rw[Go.WideShapes.add_plain,Nat.zero_add,this]
   match j,hj with
   | 0,hj=>simpa [Of.vals]using hj
   | 1,hj=>simpa [Of.vals]using hj
   | 2,hj=>simpa [Of.vals]using hj
   | 3,hj=>simpa [Of.vals]using hj
   | 4,hj=>simpa [Of.vals]using hj
   | 5,hj=>simpa [Of.vals]using hj
   | 6,hj=>simpa [Of.vals]using hj
   | j+7,hj=>simp[Of.vals]at hj) (by intro u hu;simp[Of.vals]at hu;rcases hu with rfl|rfl|rfl|rfl|rfl|rfl|rfl <;> rfl) (by unfold maxLen;omega) (by omega) hbase
 rw[←aFc,←aAt]at h2;refine aIp s x t hop hs hx hr ?_;exact hK v' w' (by rw[List.length_append];exact h2) h3 h5
theorem BInv.place{l:List Of}{x:Of}(h:BInv l x.se):BInv (aCh l x) (aCi l x):=by
 unfold aCh aCi
 by_cases e:aBo l x=0
 ·rw[if_pos e,if_pos e];unfold aBo at e;split at e
  ·simp at e
  rename_i hm;have hm:=Decidable.not_not.1 hm;split at e
  ·simp at e
  rename_i h2;have:=h.len;have:=h.n1;have:=h.n2;have hl:l.length≠32:=fun k=>h2 (.inl k)
  have hs:x.se≠18446744073709551615:=fun k=>h2 (.inr k)
  refine⟨fun y hy=>?_,?_,fun y hy=>?_,by rw[List.length_append,List.length_singleton];omega,by omega,by omega⟩
  ·rcases List.mem_append.1 hy with hy|hy
   ·exact h.may y hy
   rw[List.mem_singleton]at hy;rw[hy];exact hm
  ·rw[List.pairwise_append];refine⟨h.rise,by simp,fun a ha b hb=>?_⟩;rw[List.mem_singleton]at hb;rw[hb];exact(h.bd a ha).2
  rcases List.mem_append.1 hy with hy|hy
  ·have:=h.bd y hy;omega
  rw[List.mem_singleton]at hy;rw[hy];omega
 rw[if_neg e,if_neg e];exact h
theorem PB.setN{w:World}{base g:Nat}{l:List Of}{N:Int}{vl:Value}(h:PB w base g l N vl)(M:Int):PB (w.setCell ⟨g,1,none⟩ (.int .u64 M)) base g l M vl:=by
 have k2:Keep (·=g) w (w.setCell ⟨g,1,none⟩ (.int .u64 M)):=Keep.setCell (S:=(·=g)) (Keep.refl _ _) (p:=⟨g,1,none⟩) (.inl rfl) _;exact⟨by simpa using h.blk.set 1 (.int .u64 M),h.ge,aBf h.row k2 (fun b hb e=>h.apart b hb e)⟩
theorem appended{W w':World}{base g cap:Nat}{ao:Option Addr}{l:List Of}{x:Of}{N:Int}{c:Obj}{v':Value}(h:PB W base g l N (.slice ao l.length cap))(ho:w'.ownsRow base 129 7 v' (l++[x]).length (aAa (l++[x])))
  (hgr:(W.drew.alloc c).grownBy w' (Value.ownBlock (.slice ao l.length cap)))(hat:v'.ownBlock=Value.ownBlock (.slice ao l.length cap)∨v'.ownBlock=some (W.drew.alloc c).heap.size):
  Blk w' g #[.slice ao l.length cap,.int .u64 N] 63∧(PB (w'.setCell ⟨g,0,none⟩ v') base g (l++[x]) N v'∧(Keep (Foot g (.slice ao l.length cap)) W (w'.setCell ⟨g,0,none⟩ v')∧aC9 W (.slice ao l.length cap) v')∧
   ∀{a:Nat} {cs:Array Value} {t:TypeId},Blk W a cs t→(¬Foot g (.slice ao l.length cap) a)→Blk (w'.setCell ⟨g,0,none⟩ v') a cs t):=by
 have hB:Blk w' g #[.slice ao l.length cap,.int .u64 N] 63:=Blk.grown ((h.blk.drew).alloc _) hgr (fun e=>(h.apart _ e) rfl);have k2:Keep (·=g) w' (w'.setCell ⟨g,0,none⟩ v'):=Keep.setCell (S:=(·=g)) (Keep.refl _ _) (p:=⟨g,0,none⟩) (.inl rfl) _;have k1:Keep (Foot g (.slice ao l.length cap)) W w':=((Keep.refl _ W).drew.alloc _).grown hgr (fun k hk=>.inl (.inr hk));have hgl:=h.blk.lt;have k3:=k1.trans (k2.mono fun k _ hk=>.inl hk);refine⟨hB,⟨by simpa using hB.set 0 v',h.ge,aBf ho k2 ?_⟩,⟨k3,?_⟩,fun ha hf=>ha.keep k3 hf⟩
 ·intro b hb e;rcases hat with q|q
  ·rw[hb]at q;exact h.apart b q.symm e
  rw[hb]at q;cases q;rw[←e]at hgl;simp at hgl;omega
 intro b hb;rcases hat with q|q
 ·exact .inl (by rw[←q];exact hb)
 rw[hb]at q;cases q;exact .inr (by simp)
theorem pplace_r1{W:World}{R:Nat}{x:Of}{pv:Value}(HN:Hid (∀w',Below W.heap.size W w'→Calls Tryz.prog 27 #[pv] w' fun e w''=>e=.returned (.int .u64 x.se)∧w'=w''))(KR:Hid (Blk W R #[.int .i64 x.nu,.int .i64 x.de] 46)){Q:Exit→Act→World→Prop}{c5 c6 c7 c8 c9 c10 c12 c13 c14 c15 c16 c17 c18 c19 c20 c21 c22 c23 c24 c25 c26 c27 c28 c29 c30 c31 c32 c33 c34 c35 c36 c37 c38 c39 c40 c41 c42 c43 c44 c45 c46 c47 c48 c49 c50 c51 c52 c53 c54 c55 c56 c57 c58 c59 c60 c61:Value}
  (hq:∀a w6,W.heap.size≤a→Blk w6 a #[.int .u64 x.se,.int .u8 x.ow,.int .u8 x.sl,.int .u8 x.bu,.int .i64 x.lf,.int .i64 x.nu,.int .i64 x.de] 129→Below W.heap.size W w6→Q .normal ⟨#[pv,(.int .u8 x.ow),(.int .u8 x.sl),(.int .u8 x.bu),(.int .i64 x.lf),c5,c6,c7,c8,c9,c10,(.pointer (some ⟨R,0,none⟩)),c12,c13,(.pointer (some ⟨a,0,none⟩)),pv,(.int .u64 x.se),(.int .u8 x.ow),(.int .u8 x.sl),(.int .u8 x.bu),(.int .i64 x.lf),(.agg #[.int .i64 x.nu,.int .i64 x.de]),(.agg #[.int .u64 x.se,.int .u8 x.ow,.int .u8 x.sl,.int .u8 x.bu,.int .i64 x.lf,.int .i64 x.nu,.int .i64 x.de]),c23,c24,c25,c26,c27,c28,c29,c30,c31,c32,c33,c34,c35,c36,c37,c38,c39,c40,c41,c42,c43,c44,c45,c46,c47,c48,c49,c50,c51,c52,c53,c54,c55,c56,c57,c58,c59,c60,c61],[]⟩ w6):
  Code.wp Tryz.prog (((Tryz.f36.body).bind (aDc 1)).getD .skip) Q ⟨#[pv,(.int .u8 x.ow),(.int .u8 x.sl),(.int .u8 x.bu),(.int .i64 x.lf),c5,c6,c7,c8,c9,c10,(.pointer (some ⟨R,0,none⟩)),c12,c13,c14,c15,c16,c17,c18,c19,c20,c21,c22,c23,c24,c25,c26,c27,c28,c29,c30,c31,c32,c33,c34,c35,c36,c37,c38,c39,c40,c41,c42,c43,c44,c45,c46,c47,c48,c49,c50,c51,c52,c53,c54,c55,c56,c57,c58,c59,c60,c61],[]⟩ W:=by
 conv=>arg 2;whnf
 have HQ:=yH hq;clear hq
 refine aAz (by kernel_rfl) (fun g:Nat→Nat=>[pv,(.int .u64 x.se),(.int .u8 x.ow),(.int .u8 x.sl),(.int .u8 x.bu),(.int .i64 x.lf),(.agg #[.int .i64 x.nu,.int .i64 x.de]),(.agg #[.int .u64 x.se,.int .u8 x.ow,.int .u8 x.sl,.int .u8 x.bu,.int .i64 x.lf,.int .i64 x.nu,.int .i64 x.de]),(.pointer (some ⟨g 8,0,none⟩)),undef])
  (Lays W [(⟨8,9,(.cells #[.int .u64 0,.int .u8 0,.int .u8 0,.int .u8 0,.int .i64 0,.int .i64 0,.int .i64 0] 129),(.cells #[.int .u64 x.se,.int .u8 x.ow,.int .u8 x.sl,.int .u8 x.bu,.int .i64 x.lf,.int .i64 x.nu,.int .i64 x.de] 129)⟩:Spec)]) (by kernel_rfl) (fun _=>0) (Lays.start _ _ _) ?_
 intro AF hAF;simp only[yG,puts,Act.put,yA,yC,yF,yD,yE]at hAF;have hAF2:_=AF:=funext hAF;subst hAF2;clear hAF;refine⟨?_,?_⟩
 ·simp only[yG,aEc];refine⟨?_,?_,?_,?_,?_,?_,?_,?_,?_,?_,trivial⟩
  ·intro g D w' hD hW hC hI;refine⟨g,fun _ _ _=>rfl,?_⟩;with_reducible refine yO rfl ?_
   have hS:=hI.below;have HS:=yH (hI.step yZ (k:=0) (by rfl));clear hI hS hC hW hD;go_wp2_with fail;all_goals first|exact HS|exact⟨rfl,HS⟩|rfl
  ·intro g D w' hD hW hC hI;refine⟨g,fun _ _ _=>rfl,?_⟩;with_reducible refine yO rfl ?_
   have hS:=hI.below;have HI:=yH hI;have HC:=yH (HN.out w' hS);clear hI hS hC hW hD;go_wp2_with fail;refine HC.out.mono ?_;rintro e w'' ⟨rfl,rfl⟩;exact⟨rfl,HI.out.step yZ (by rfl)⟩
  ·intro g D w' hD hW hC hI;refine⟨g,fun _ _ _=>rfl,?_⟩;with_reducible refine yO rfl ?_
   have hS:=hI.below;have HS:=yH (hI.step yZ (k:=2) (by rfl));clear hI hS hC hW hD;go_wp2_with fail;all_goals first|exact HS|exact⟨rfl,HS⟩|rfl
  ·intro g D w' hD hW hC hI;refine⟨g,fun _ _ _=>rfl,?_⟩;with_reducible refine yO rfl ?_
   have hS:=hI.below;have HS:=yH (hI.step yZ (k:=3) (by rfl));clear hI hS hC hW hD;go_wp2_with fail;all_goals first|exact HS|exact⟨rfl,HS⟩|rfl
  ·intro g D w' hD hW hC hI;refine⟨g,fun _ _ _=>rfl,?_⟩;with_reducible refine yO rfl ?_
   have hS:=hI.below;have HS:=yH (hI.step yZ (k:=4) (by rfl));clear hI hS hC hW hD;go_wp2_with fail;all_goals first|exact HS|exact⟨rfl,HS⟩|rfl
  ·intro g D w' hD hW hC hI;refine⟨g,fun _ _ _=>rfl,?_⟩;with_reducible refine yO rfl ?_
   have hS:=hI.below;have HS:=yH (hI.step yZ (k:=5) (by rfl));clear hI hS hC hW hD;go_wp2_with fail;all_goals first|exact HS|exact⟨rfl,HS⟩|rfl
  ·intro g D w' hD hW hC hI;refine⟨g,fun _ _ _=>rfl,?_⟩;with_reducible refine yO rfl ?_
   have hS:=hI.below;have hl0:=yM KR.out.lt hS.size;have d0_0:=(KR.out.below hS KR.out.lt).cell 0;have d0_1:=(KR.out.below hS KR.out.lt).cell 1;simp at d0_0 d0_1;have HS:=yH (hI.step yZ (k:=6) (by rfl));clear hI hS hC hW hD;go_wp2_with fail;all_goals first|exact HS|exact⟨rfl,HS⟩|rfl
  ·intro g D w' hD hW hC hI;refine⟨g,fun _ _ _=>rfl,?_⟩;with_reducible refine yO rfl ?_
   have hS:=hI.below;have HS:=yH (hI.step yZ (k:=7) (by rfl));clear hI hS hC hW hD;go_wp2_with fail;all_goals first|exact HS|exact⟨rfl,HS⟩|rfl
  ·intro g D w' hD hW hC hI;have hN:D 9=false:=aBa hC hD 12 9 (by kernel_rfl);refine⟨upd g 8 w'.heap.size,aCp _ (fun g:Nat→Nat=>[pv,(.int .u64 x.se),(.int .u8 x.ow),(.int .u8 x.sl),(.int .u8 x.bu),(.int .i64 x.lf),(.agg #[.int .i64 x.nu,.int .i64 x.de]),(.agg #[.int .u64 x.se,.int .u8 x.ow,.int .u8 x.sl,.int .u8 x.bu,.int .i64 x.lf,.int .i64 x.nu,.int .i64 x.de]),(.pointer (some ⟨g 8,0,none⟩)),undef]) g 8 _ 12 hC hD ?_,?_⟩
   ·intro j hj
    match j,hj with
    | 0,_=>exact .inr rfl
    | 1,_=>exact .inr rfl
    | 2,_=>exact .inr rfl
    | 3,_=>exact .inr rfl
    | 4,_=>exact .inr rfl
    | 5,_=>exact .inr rfl
    | 6,_=>exact .inr rfl
    | 7,_=>exact .inr rfl
    | 8,_=>exact .inl (.inl rfl)
    | 9,_=>exact .inr rfl
    | j+10,_=>exact .inr rfl
   with_reducible refine yO rfl ?_
   have HS:=yH (hI.lay (⟨8,9,(.cells #[.int .u64 0,.int .u8 0,.int .u8 0,.int .u8 0,.int .i64 0,.int .i64 0,.int .i64 0] 129),(.cells #[.int .u64 x.se,.int .u8 x.ow,.int .u8 x.sl,.int .u8 x.bu,.int .i64 x.lf,.int .i64 x.nu,.int .i64 x.de] 129)⟩:Spec) (by simp) (by rfl) (.inr hN) (by rfl) (fun s' hs' _=>List.mem_singleton.1 hs') (.cells #[.int .u64 0,.int .u8 0,.int .u8 0,.int .u8 0,.int .i64 0,.int .i64 0,.int .i64 0] 129) rfl);clear hI hC hW hD hN;go_wp2_with fail;all_goals first|exact HS|exact⟨rfl,HS⟩|rfl
  intro g D w' hD hW hC hI;have hP:D 8=true:=aA2 hC hW (d:=12) (by kernel_rfl);obtain⟨hg,hk⟩:=hI.zeroed (⟨8,9,(.cells #[.int .u64 0,.int .u8 0,.int .u8 0,.int .u8 0,.int .i64 0,.int .i64 0,.int .i64 0] 129),(.cells #[.int .u64 x.se,.int .u8 x.ow,.int .u8 x.sl,.int .u8 x.bu,.int .i64 x.lf,.int .i64 x.nu,.int .i64 x.de] 129)⟩:Spec) (by simp) hP hD;refine⟨g,fun _ _ _=>rfl,?_⟩;with_reducible refine yO rfl ?_
  refine wp_store_row 129 (.tmp 14) (.tmp 22) rfl (g 8) #[.int .u64 x.se,.int .u8 x.ow,.int .u8 x.sl,.int .u8 x.bu,.int .i64 x.lf,.int .i64 x.nu,.int .i64 x.de] rfl rfl 129 _ hk (by kernel_rfl) rfl (by simp[Value.oneCell']) ⟨rfl,?_⟩;exact hI.fill (⟨8,9,(.cells #[.int .u64 0,.int .u8 0,.int .u8 0,.int .u8 0,.int .i64 0,.int .i64 0,.int .i64 0] 129),(.cells #[.int .u64 x.se,.int .u8 x.ow,.int .u8 x.sl,.int .u8 x.bu,.int .i64 x.lf,.int .i64 x.nu,.int .i64 x.de] 129)⟩:Spec) (by simp) (by rfl) (show(9:Nat)≠8 by decide) (fun s' hs' _=>List.mem_singleton.1 hs') hP (aAf _ _) (setRow_heap w' (g 8) _ _ 129 (0,0) hk)
 intro g D w6 hall hI;obtain⟨h1,h2⟩:=hI.full (⟨8,9,(.cells #[.int .u64 0,.int .u8 0,.int .u8 0,.int .u8 0,.int .i64 0,.int .i64 0,.int .i64 0] 129),(.cells #[.int .u64 x.se,.int .u8 x.ow,.int .u8 x.sl,.int .u8 x.bu,.int .i64 x.lf,.int .i64 x.nu,.int .i64 x.de] 129)⟩:Spec) (by simp) (hall 8 (by decide)) (hall 9 (by decide));exact HQ.out (g 8) w6 h1 h2 hI.below
theorem aGm{w:World}{base g:Nat}{l:List Of}{x:Of}{vl:Value}(h:PB w base g l x.se vl)(hI:BInv l x.se)(hx:x.Fits):
  Calls Tryz.prog 36 #[.pointer (some ⟨g,0,none⟩),.int .u8 x.ow,.int .u8 x.sl,.int .u8 x.bu,.int .i64 x.lf,.agg #[.int .i64 x.nu,.int .i64 x.de]] w fun e w'=>e=.returned (.tuple #[.int .u64 (aDf l x),.int .i64 (aBo l x)])∧∃vl',PB w' base g (aCh l x) (aCi l x) vl'∧Keep (Foot g vl) w w'∧aC9 w vl vl':=by
 have bw:=(Below.refl w.heap.size w).alloc yL (.cells #[.int .i64 x.nu,.int .i64 x.de] 46);have H1:=yH (h.below bw);have KR:=yH (pAA w #[.int .i64 x.nu,.int .i64 x.de] 46);have B1:=yH bw;have HI:=yH hI;have HX:=yH hx;have HG:=yH (h.below bw).blk;have HL:=yH (fun b (hb:Foot g vl b)=>(h.lt hb).2);clear bw h hI hx;go_enter Tryz.func36,Tryz.ntmps36;go_wp2_with fail;generalize hWW:w.alloc (.cells #[.int .i64 x.nu,.int .i64 x.de] 46)=W at *;clear hWW;refine pplace_r1 (yH (fun w' k=>aEn (HG.out.below k HG.out.lt))) KR ?_;intro a w2 ha hA b2;have H2:=yH (H1.out.below b2);have B2:=yT B1 b2;have HA:=yH hA;have HAF:=yH (show ¬Foot g vl a from fun hf=>by have:=HL.out a hf;have:=B1.out.size;omega);have CM:=yH (aH9 H2.out.blk HI.out.n1);have CY:=yH (pmay_any x w2 HX.out);have kl:=hA.lt;have a0:=hA.cell 0;have a1:=hA.cell 1;have a2:=hA.cell 2;have a3:=hA.cell 3;have a4:=hA.cell 4;have a5:=hA.cell 5;have a6:=hA.cell 6;simp at a0 a1 a2 a3 a4 a5 a6;have hlen:=HI.out.len;clear ha hA b2 H1 B1 HG KR HL
 by_cases hm:¬x.may
 ·have e1:aBo l x=1:=by unfold aBo;rw[if_pos hm]
  have E:=yH (show aBo l x=1∧aDf l x=0∧aCh l x=l∧aCi l x=x.se from⟨e1,by unfold aDf;rw[e1];rfl,by unfold aCh;rw[e1];rfl,by unfold aCi;rw[e1];rfl⟩);rw[decide_eq_false hm]at CY;clear e1 hm;go_wp2_with fail;refine CM.out.mono ?_;rintro e w2 ⟨rfl,rfl⟩;go_wp2_with fail;refine CY.out.mono ?_;rintro e w3 ⟨rfl,b3⟩;have H3:=yH (H2.out.below b3);have B3:=yT B2 b3;clear b3 H2 B2 CM CY a0 a1 a2 a3 a4 a5 a6 kl;go_wp2_with fail;refine bodyPost_ret (v:=.tuple #[.int .u64 0,.int .i64 1]) (by simp[results,Tryz.results36,go_sem]) rfl ?_;rw[E.out.1,E.out.2.1,E.out.2.2.1,E.out.2.2.2];exact⟨rfl,vl,H3.out,pAE B3.out,aC9.refl _ _⟩
 have hm:=Decidable.not_not.1 hm;rw[decide_eq_true hm]at CY;obtain⟨ao,cap,hvl,hc1,hc2,_⟩:=aAe H2.out.row;subst hvl;unfold maxLen at hc2;go_wp2_with fail;refine CM.out.mono ?_;rintro e w2 ⟨rfl,rfl⟩;go_wp2_with fail;refine CY.out.mono ?_;rintro e w3 ⟨rfl,b3⟩;have HG4:=yH (H2.out.below b3);have HA4:=yB HA b3;have HA4b:=HAF;have B3:=yT B2 b3;clear b3 H2 B2 CM CY a0 a1 a2 a3 a4 a5 a6 kl HA HAF;have hgl:=HG4.out.blk.lt;have d0:=HG4.out.blk.cell 0;have a0:=HA4.out.cell 0;have hal:=HA4.out.lt;simp at d0 a0
 by_cases hf:l.length=32∨x.se=18446744073709551615
 ·have e1:aBo l x=9:=by unfold aBo;rw[if_neg (by simpa using hm),if_pos hf]
  have E:=yH (show aBo l x=9∧aDf l x=0∧aCh l x=l∧aCi l x=x.se from⟨e1,by unfold aDf;rw[e1];rfl,by unfold aCh;rw[e1];rfl,by unfold aCi;rw[e1];rfl⟩);clear e1
  by_cases h32:l.length=32
  ·have q1:((l.length:Int)==32)=true:=by rw[h32];rfl
   clear hf h32;go_wp2_with fail;refine bodyPost_ret (v:=.tuple #[.int .u64 0,.int .i64 9]) (by simp[results,Tryz.results36,go_sem]) rfl ?_;rw[E.out.1,E.out.2.1,E.out.2.2.1,E.out.2.2.2];exact⟨rfl,_,HG4.out,pAE B3.out,aC9.refl _ _⟩
  have q1:((l.length:Int)==32)=false:=by simp;omega
  have hse:x.se=18446744073709551615:=by rcases hf with h|h;exact absurd h h32;exact h
  have q2:(x.se==18446744073709551615)=true:=by simpa using hse
  have HSE:=yH hse;clear hf h32 hse;go_wp2_with fail;refine bodyPost_ret (v:=.tuple #[.int .u64 0,.int .i64 9]) (by simp[results,Tryz.results36,go_sem]) rfl ?_;rw[E.out.1,E.out.2.1,E.out.2.2.1,E.out.2.2.2];exact⟨rfl,_,HG4.out,pAE B3.out,aC9.refl _ _⟩
 have e1:aBo l x=0:=by unfold aBo;rw[if_neg (by simpa using hm),if_neg hf]
 have E:=yH (show aBo l x=0∧aDf l x=x.se∧aCh l x=l++[x]∧aCi l x=x.se+1 from⟨e1,by unfold aDf;rw[if_pos e1],by unfold aCh;rw[if_pos e1],by unfold aCi;rw[if_pos e1]⟩);have q1:((l.length:Int)==32)=false:=by simp;omega
 have q2:(x.se==18446744073709551615)=false:=by simp;omega
 have hn:=HI.out.n2;have hn1:=HI.out.n1;have hse0:0≤x.se+1:=by omega
 have hse1:x.se+1≤18446744073709551615:=by omega
 clear e1 hf;go_wp2_with fail;clear d0 a0 hgl hal;generalize w3=W at *;have hgl:=HG4.out.blk.lt;have d0:=HG4.out.blk.cell 0;simp at d0;have hal:=HA4.out.lt;have a0:=HA4.out.cell 0;have a1:=HA4.out.cell 1;have a2:=HA4.out.cell 2;have a3:=HA4.out.cell 3;have a4:=HA4.out.cell 4;have a5:=HA4.out.cell 5;have a6:=HA4.out.cell 6;simp at a0 a1 a2 a3 a4 a5 a6;have hbs:=Nat.le_trans HG4.out.ge (Nat.le_of_lt hgl)
 go_region_law (refine aEr rfl (.tmp 47) (.tmp 49) 61 rfl base 129 Tryz.underlying61 rfl aF0 (.slice ao l.length cap) l rfl (aAn HG4.out.row (yZ.drew.alloc yL _)) W.heap.size 1 x rfl (pAA W.drew _ _) (by omega) (by simp;omega) ?_;intro v' w' ho hgr hat;have HAP:=yH (appended HG4.out ho hgr hat);have hB:=HAP.out.1;have d1:=hB.cell 0;have f1:=hB.frozen 0;have l1:=hB.lt;simp at d1;obtain⟨ao',cap',hv',_⟩:=aAe ho;obtain⟨ln,hln⟩:∃ln,(l++[x]).length=ln:=⟨_,rfl⟩;rw[hln]at hv';subst hv';clear hln;clear ho hgr hat hB d0)
 all_goals
  have HE:=yH HAP.out.2;clear HAP d1 f1 l1;have e0:=HE.out.1.blk.cell 1;have e1:=HE.out.1.blk.lt;have e2:=HE.out.1.blk.frozen 1;have e3:=HE.out.2.2 HA4.out HA4b.out;have e4:=e3.cell 0;have e5:=e3.lt;simp at e0 e4;clear e3;go_wp2;refine bodyPost_ret (v:=.tuple #[.int .u64 x.se,.int .i64 0]) (by simp[results,Tryz.results36,go_sem]) rfl ?_;have k3:Keep (·=g) (w'.setCell ⟨g,0,none⟩ (.slice ao' ln cap')) ((w'.setCell ⟨g,0,none⟩ (.slice ao' ln cap')).setCell ⟨g,1,none⟩ (.int .u64 (x.se+1))):=Keep.setCell (S:=(·=g)) (Keep.refl _ _) (p:=⟨g,1,none⟩) (.inl rfl) _;rw[E.out.1,E.out.2.1,E.out.2.2.1,E.out.2.2.2];exact⟨rfl,_,HE.out.1.setN _,(pAE B3.out).trans (HE.out.2.1.1.trans (k3.mono fun k _ hk=>.inl hk)),HE.out.2.1.2.of_le B3.out.size⟩
def aD9(s t:Int)(σ:RS):Nat→RS
 | 0=>σ
 | k+1=>wayR s t (aD9 s t σ k)
theorem aJa{f0:Int→Int→Int}{B s t want:Int}(h:GInv f0 B):∀k,(∀j,j<k→¬aB7 s t (aD9 s t ⟨f0,want,[]⟩ j))→RInv f0 B s t want k (aD9 s t ⟨f0,want,[]⟩ k)
 | 0,_=>RInv.start h s t want
 | k+1,hj=>(aJa h k (fun j hk=>hj j (by omega))).step (hj k (by omega))
theorem aJb{f0:Int→Int→Int}{B s t want:Int}(h:GInv f0 B)(k:Nat)(hj:∀j,j<k→¬aB7 s t (aD9 s t ⟨f0,want,[]⟩ j))(hd:aB7 s t (aD9 s t ⟨f0,want,[]⟩ k)):aAc f0 B s t want (aD9 s t ⟨f0,want,[]⟩ k):=
 ⟨k,aJa h k hj,hd⟩
def p10:List Int:=[1,2,3]
def o10:List Of:=[⟨1,2,1,2,5,3,2⟩]
theorem aHj{ps:List Int}{ls:List Ln}(h:LInv ps ls){c a b v:Int}(k:Nat)(hc:(∀j,j<k→¬aB7 a b (aD9 a b ⟨aBg ps ls c,aA7,[]⟩ j))∧aB7 a b (aD9 a b ⟨aBg ps ls c,aA7,[]⟩ k)∧aA7 - (aD9 a b ⟨aBg ps ls c,aA7,[]⟩ k).left=v):aDa ps ls c a b=v:=by
 unfold aDa;rw[(aBs (aAm h c) a b aA7).eq (aJb (aAm h c) k hc.1 hc.2.1)];exact hc.2.2
theorem aHk{ps:List Int}{ls ls':List Ln}(h:LInv ps ls){c a b n:Int}(k:Nat)(hc:(∀j,j<k→¬aB7 a b (aD9 a b ⟨aBg ps ls c,n,[]⟩ j))∧aB7 a b (aD9 a b ⟨aBg ps ls c,n,[]⟩ k)∧payL ps ls a b c n (aD9 a b ⟨aBg ps ls c,n,[]⟩ k)=ls'):aGk ps ls a b c n=ls':=by
 unfold aGk;rw[(aBs (aAm h c) a b n).eq (aJb (aAm h c) k hc.1 hc.2.1)];exact hc.2.2
def ov0:List Of:=[⟨1,2,1,2,5,3,2⟩,⟨2,2,1,2,5,1,1⟩]
def ov1:List Of:=[⟨1,2,1,2,5,3,2⟩]
def ov2:List Of:=[⟨1,2,1,2,4,3,2⟩]
def fv1:Fl:=⟨2,5,5⟩
def fv2:Fl:=⟨1,1,2⟩
theorem aJ4{l:List Of}{N:Int}(h:BInv l N){s b:Int}{o:Of}(ho:o∈aFn l s b):o∈l∧o.sl=s∧o.bu=b:=by
 have h1:=((bestO_is h.may h.rise s b).1.mem_iff).1 ho;rw[List.mem_filter]at h1;obtain⟨h2,h3⟩:=h1;simp[aAu]at h3;exact⟨h2,h3.1,h3.2⟩
theorem aMx{l:List Of}{N:Int}(h:BInv l N){o:Of}(ho:o∈l):aA3 l o.se=some o:=by
 cases hf:aA3 l o.se with
 | none=>
  unfold aA3 at hf;rw[List.find?_eq_none]at hf;exact absurd (by simp) (hf o ho)
 | some o'=>
  obtain⟨h1,h2⟩:=aCf hf
  have key:∀{m:List Of},m.Pairwise (fun x y=>x.se<y.se)→o∈m→o'∈m→o=o':=by
   intro m hm
   induction m with
   | nil=>intro a;cases a
   | cons z m ih=>
    intro a b;have hz:=(List.pairwise_cons.1 hm).1;rcases List.mem_cons.1 a with ea|a
    ·rcases List.mem_cons.1 b with eb|b
     ·rw[ea,eb]
     have:=hz _ b;rw[←ea]at this;omega
    rcases List.mem_cons.1 b with eb|b
    ·have:=hz _ a;rw[←eb]at this;omega
    exact ih (List.pairwise_cons.1 hm).2 a b
  rw[key h.rise ho h1]
def likeO(a b:Of):Prop:=a.ow=b.ow∧a.sl=b.sl∧a.bu=b.bu∧a.nu=b.nu∧a.de=b.de
theorem take_like{l:List Of}{N:Int}(h:BInv l N){s n:Int}{o:Of}(hf:aA3 l s=some o)(h1:1≤n)(h2:n≤o.lf){t:Int}{x:Of}(hx:aA3 (aCe l s n) t=some x):∃y,aA3 l t=some y∧likeO y x:=by
 obtain⟨hm,hs⟩:=aCf hx;rw[take_facts h hf h1 h2]at hm;obtain⟨_,y,hy,hor⟩:=aJz hm;rcases hor with rfl|⟨_,rfl⟩
 ·exact⟨x,by rw[←hs];exact aMx h hy,rfl,rfl,rfl,rfl,rfl⟩
 exact⟨y,by rw[←hs];exact aMx h hy,rfl,rfl,rfl,rfl,rfl⟩
def flBy(l0:List Of)(tk pt:Int)(f:Fl)(p c:Int):Int:=match aA3 l0 f.se with
 | none=>0
 | some o=>aK9 o tk pt f.got f.gi p c
def agO(l:List Of)(sl bu nu de:Int):List Of:=(aFn l bu sl).takeWhile fun x=>decide (cmpR x.nu x.de de nu≤0)
theorem mem_ag{l:List Of}{N:Int}(h:BInv l N){sl bu nu de:Int}{o:Of}(ho:o∈agO l sl bu nu de):o∈l∧o.sl=bu∧o.bu=sl∧cmpR o.nu o.de de nu≤0:=by
 have h1:=aD2 ho;obtain⟨a,b,c⟩:=aJ4 h ((List.takeWhile_sublist _).subset ho);exact⟨a,b,c,by simpa using h1⟩
noncomputable def aIh(ps:List Int)(ow:Int)(σ:SwS)(s k:Int):SwS:=match aA3 σ.l s with
 | none=>σ
 | some o=>⟨aBu ps σ.ls o ow ow k (upN (k*o.nu) o.de),aCe σ.l s k,σ.fs++[⟨s,k,upN (k*o.nu) o.de⟩],σ.n - upN (k*o.nu) o.de⟩
noncomputable def aA6(ps:List Int)(ow sl bu nu de:Int):Nat→SwS→Int×SwS
 | fuel,σ=>if σ.n≤0 then(0,σ)else match aA5 ps σ.ls σ.l ow ow 1099511627776 σ.n (agO σ.l sl bu nu de)with
  | none=>(0,σ)
  | some (s,k)=>if σ.fs.length=64 then(13,σ)else match fuel with
   | 0=>(13,σ)
   | f+1=>aA6 ps ow sl bu nu de f (aIh ps ow σ s k)
theorem aFo{ps:List Int}{ow sl bu nu de:Int}{fuel:Nat}{σ:SwS}(h:σ.n≤0):aA6 ps ow sl bu nu de fuel σ=(0,σ):=by
 cases fuel <;> (unfold aA6;rw[if_pos h])
theorem aFp{ps:List Int}{ow sl bu nu de:Int}{fuel:Nat}{σ:SwS}(h:¬σ.n≤0)(hf:aA5 ps σ.ls σ.l ow ow 1099511627776 σ.n (agO σ.l sl bu nu de)=none):aA6 ps ow sl bu nu de fuel σ=(0,σ):=by
 cases fuel <;> (unfold aA6;rw[if_neg h,hf])
theorem aFq{ps:List Int}{ow sl bu nu de:Int}{fuel:Nat}{σ:SwS}{s k:Int}(h:¬σ.n≤0)(hf:aA5 ps σ.ls σ.l ow ow 1099511627776 σ.n (agO σ.l sl bu nu de)=some (s,k))(hl:σ.fs.length=64):aA6 ps ow sl bu nu de fuel σ=(13,σ):=by
 cases fuel <;> (unfold aA6;rw[if_neg h,hf];simp only[];rw[if_pos hl])
theorem aMy{ps:List Int}{ow sl bu nu de:Int}{σ:SwS}{s k:Int}(h:¬σ.n≤0)(hf:aA5 ps σ.ls σ.l ow ow 1099511627776 σ.n (agO σ.l sl bu nu de)=some (s,k)):aA6 ps ow sl bu nu de 0 σ=(13,σ):=by
 by_cases hl:σ.fs.length=64
 ·exact aFq h hf hl
 unfold aA6;rw[if_neg h,hf];simp only[];rw[if_neg hl]
theorem aD3{ps:List Int}{ow sl bu nu de:Int}{fuel:Nat}{σ:SwS}{s k:Int}(h:¬σ.n≤0)(hf:aA5 ps σ.ls σ.l ow ow 1099511627776 σ.n (agO σ.l sl bu nu de)=some (s,k))(hl:¬σ.fs.length=64):aA6 ps ow sl bu nu de (fuel+1) σ=aA6 ps ow sl bu nu de fuel (aIh ps ow σ s k):=by
 conv=>lhs;unfold aA6
 rw[if_neg h,hf];simp only[];rw[if_neg hl]
noncomputable def aD4(N ow sl bu nu de:Int)(r:Int×SwS):Int×SwS×Int×Int:=
 if r.1≠0 then(r.1,r.2,N,0)else if r.2.n≤0 then(0,r.2,N,0)else
  (aBo r.2.l ⟨N,ow,sl,bu,r.2.n,nu,de⟩,⟨r.2.ls,aCh r.2.l ⟨N,ow,sl,bu,r.2.n,nu,de⟩,r.2.fs,r.2.n⟩,aCi r.2.l ⟨N,ow,sl,bu,r.2.n,nu,de⟩,aDf r.2.l ⟨N,ow,sl,bu,r.2.n,nu,de⟩)
noncomputable def aDq(ps:List Int)(ls:List Ln)(l:List Of)(N ow sl bu lf nu de:Int):Int×SwS×Int×Int:=
 if ¬(Of.mk 0 ow sl bu lf nu de).may then(1,⟨ls,l,[],lf⟩,N,0)else if ow∉ps then(7,⟨ls,l,[],lf⟩,N,0)else
  aD4 N ow sl bu nu de (aA6 ps ow sl bu nu de 64 ⟨ls,l,[],lf⟩)
structure aE3(ps:List Int)(ls0:List Ln)(l0:List Of)(N ow sl bu nu de n0:Int)(σ:SwS):Prop where
 linv:LInv ps σ.ls
 binv:BInv σ.l N
 lim:limL σ.ls=limL ls0
 like:∀s o,aA3 σ.l s=some o→∃y,aA3 l0 s=some y∧likeO y o
 fs:∀f∈σ.fs,∃o,aA3 l0 f.se=some o∧o.sl=bu∧o.bu=sl∧o.ow≠ow∧o.ow∈ps∧cmpR o.nu o.de de nu≤0∧(1≤f.got∧f.got≤1099511627776)∧(1≤f.gi∧f.gi≤1099511627776)∧f.gi=upN (f.got*o.nu) o.de∧mayB o.nu o.de=true
 sum:(σ.fs.map Fl.gi).sum+σ.n=n0
 nn:0≤σ.n
 len:σ.fs.length≤64
 pos:∀p c,posL σ.ls p c=posL ls0 p c+(σ.fs.map fun f=>flBy l0 ow ow f p c).sum
theorem aE3.start{ps:List Int}{ls0:List Ln}{l0:List Of}{N ow sl bu nu de n0:Int}(hI:LInv ps ls0)(hJ:BInv l0 N)(hn:0≤n0):aE3 ps ls0 l0 N ow sl bu nu de n0 ⟨ls0,l0,[],n0⟩:=
 ⟨hI,hJ,rfl,fun s o h=>⟨o,h,rfl,rfl,rfl,rfl,rfl⟩,fun f hf=>(by cases hf),(by simp),hn,(by simp),fun p c=>(by simp)⟩
theorem aE3.step{ps:List Int}{ls0:List Ln}{l0:List Of}{N ow sl bu nu de n0:Int}{σ:SwS}(h:aE3 ps ls0 l0 N ow sl bu nu de n0 σ){s k:Int}(hf:aA5 ps σ.ls σ.l ow ow 1099511627776 σ.n (agO σ.l sl bu nu de)=some (s,k)):
  1≤k∧k≤1099511627776∧okS ps σ.ls σ.l ow ow k s∧∃o,aA3 σ.l s=some o∧o∈agO σ.l sl bu nu de∧k≤o.lf∧1≤upN (k*o.nu) o.de∧upN (k*o.nu) o.de≤σ.n∧
   aIh ps ow σ s k=⟨aBu ps σ.ls o ow ow k (upN (k*o.nu) o.de),aCe σ.l s k,σ.fs++[⟨s,k,upN (k*o.nu) o.de⟩],σ.n - upN (k*o.nu) o.de⟩∧
   (¬σ.fs.length=64→aE3 ps ls0 l0 N ow sl bu nu de n0 (aIh ps ow σ s k)):=by
 obtain⟨h1,h2,o,h3,rfl⟩:=aIg hf;obtain⟨hm,hsl,hbu,hcm⟩:=mem_ag h.binv h3;have hfo:=aMx h.binv hm;obtain⟨ok,hle⟩:=may_okS h.linv h2 (by omega);have hG:=goesS h.linv o ow ow;have hG':∀o',aA3 σ.l o.se=some o'→Goes ps σ.ls o' ow ow (aDa ps σ.ls o.sl o.ow ow) (aDa ps σ.ls o.bu ow o.ow):=fun o' ho'=>by rw[hfo]at ho';cases ho';exact hG
 have hd:=(aJ3 h.linv hG').2 ok;obtain⟨o',ho',⟨k1,k2,k3,k4⟩,k5,_,_⟩:=hd.facts;rw[hfo]at ho'
 cases ho'
 obtain⟨f1,f2,f3,f4,f5⟩:=aLa h.linv h.binv hfo hG hd rfl (aGl h.linv o ow ow k (upN (k*o.nu) o.de));obtain⟨_,_,_,_,⟨l1,l2⟩,hmr⟩:=h.binv.may o hm;obtain⟨y,hy,y1,y2,y3,y4,y5⟩:=h.like o.se o hfo
 -- what is given is no more than what is left
 have hb1:=mostS_bd h.linv o.sl o.ow ow;have hb2:=mostS_bd h.linv o.bu ow o.ow;have hmd:=may_do hb1.1 hb2.1 (by rw[aJ2 h.linv hG'];exact h2.symm) (show 1≤k by omega);obtain⟨_,_,hn1,o2,ho2,hfit⟩:=hmd;rw[hfo]at ho2
 cases ho2
 have hup:=(aMs hmr (g:=min (min σ.n 1099511627776) (aDa ps σ.ls o.bu ow o.ow)) (by omega) (by omega) (show 0≤k by omega) hfit).2.2
 have e:aIh ps ow σ o.se k=⟨aBu ps σ.ls o ow ow k (upN (k*o.nu) o.de),aCe σ.l o.se k,σ.fs++[⟨o.se,k,upN (k*o.nu) o.de⟩],σ.n - upN (k*o.nu) o.de⟩:=by
  unfold aIh;rw[hfo]
 refine⟨by omega,hle,ok,o,hfo,h3,k5,f3,by omega,e,fun hl=>?_⟩;rw[e];refine⟨aMw h.linv _ _ _ _ _,h.binv.take _ _,f1.symm.trans h.lim,fun t x hx=>?_,fun f hf=>?_,?_,?_,?_,fun p c=>?_⟩
 ·obtain⟨z,hz,z1,z2,z3,z4,z5⟩:=take_like h.binv hfo (by omega) k5 hx;obtain⟨v,hv,v1,v2,v3,v4,v5⟩:=h.like t z hz;exact⟨v,hv,v1.trans z1,v2.trans z2,v3.trans z3,v4.trans z4,v5.trans z5⟩
 ·rcases List.mem_append.1 hf with hf|hf
  ·exact h.fs f hf
  rw[List.mem_singleton]at hf;subst hf;exact⟨y,hy,by rw[y2,hsl],by rw[y3,hbu],by rw[y1];exact k1,by rw[y1];exact k2,by rw[y4,y5];exact hcm,⟨by show 1≤k;omega,by show k≤1099511627776;omega⟩,⟨f3,f4⟩,by rw[y4,y5],by rw[y4,y5];exact hmr⟩
 ·have:=h.sum;simp only[List.map_append,List.map_cons,List.map_nil,List.sum_append,List.sum_cons,List.sum_nil];omega
 ·show 0≤σ.n - upN (k*o.nu) o.de;omega
 ·have:=h.len;rw[List.length_append,List.length_singleton];omega
 show posL (aBu ps σ.ls o ow ow k (upN (k*o.nu) o.de)) p c=_;rw[f2 p c,h.pos p c];simp only[List.map_append,List.map_cons,List.map_nil,List.sum_append,List.sum_cons,List.sum_nil]
 have e2:flBy l0 ow ow ⟨o.se,k,upN (k*o.nu) o.de⟩ p c=aK9 o ow ow k (upN (k*o.nu) o.de) p c:=by
  unfold flBy;simp only[hy];unfold aK9;rw[y1,y2,y3]
 rw[e2];omega
theorem aJc{ps:List Int}{ow sl bu nu de:Int}(C:SwS→Prop)(hs:∀σ s k,C σ→¬σ.n≤0→aA5 ps σ.ls σ.l ow ow 1099511627776 σ.n (agO σ.l sl bu nu de)=some (s,k)→¬σ.fs.length=64→C (aIh ps ow σ s k)):∀(fuel:Nat) {σ:SwS},C σ→C (aA6 ps ow sl bu nu de fuel σ).2
 | fuel,σ,h=>by
  by_cases hn:σ.n≤0
  ·rw[aFo hn];exact h
  cases hf:aA5 ps σ.ls σ.l ow ow 1099511627776 σ.n (agO σ.l sl bu nu de)with
  | none=>rw[aFp hn hf];exact h
  | some sk=>
   obtain⟨s,k⟩:=sk
   by_cases hl:σ.fs.length=64
   ·rw[aFq hn hf hl];exact h
   cases fuel with
   | zero=>rw[aMy hn hf];exact h
   | succ fuel=>rw[aD3 hn hf hl];exact aJc C hs fuel (hs σ s k h hn hf hl)
theorem aE3.ends{ps:List Int}{ls0:List Ln}{l0:List Of}{N ow sl bu nu de n0:Int}(fuel:Nat){σ:SwS}(h:aE3 ps ls0 l0 N ow sl bu nu de n0 σ):aE3 ps ls0 l0 N ow sl bu nu de n0 (aA6 ps ow sl bu nu de fuel σ).2:=by
 refine aJc (fun σ=>aE3 ps ls0 l0 N ow sl bu nu de n0 σ) (fun σ s k hc hn hf hl=>?_) fuel h;obtain⟨_,_,_,_,_,_,_,_,_,_,q⟩:=hc.step hf;exact q hl
theorem aE3.gi_nn{ps:List Int}{ls0:List Ln}{l0:List Of}{N ow sl bu nu de n0:Int}{σ:SwS}(h:aE3 ps ls0 l0 N ow sl bu nu de n0 σ):0≤(σ.fs.map Fl.gi).sum:=by
 have key:∀l:List Fl,(∀f∈l,1≤f.gi)→0≤(l.map Fl.gi).sum:=by
  intro l
  induction l with
  | nil=>intro _;simp
  | cons x l ih=>
   intro hx;have a:=hx x List.mem_cons_self;have b:=ih (fun y hy=>hx y (List.mem_cons_of_mem _ hy));rw[List.map_cons,List.sum_cons];omega
 exact key _ (fun f hf=>by obtain⟨o,_,_,_,_,_,_,_,a,_⟩:=h.fs f hf;exact a.1)
def l12:List Ln:=[⟨1,2,1,9,0⟩,⟨3,2,1,9,0⟩,⟨2,1,2,7,0⟩]
def lpA:List Ln:=[⟨1,2,1,9,5⟩,⟨3,2,1,9,0⟩,⟨2,1,2,7,0⟩]
def lp1:List Ln:=[⟨1,2,1,9,5⟩,⟨3,2,1,9,0⟩,⟨2,1,2,7,5⟩]
def lpB:List Ln:=[⟨1,2,1,9,6⟩,⟨3,2,1,9,0⟩,⟨2,1,2,7,5⟩]
def lp2:List Ln:=[⟨1,2,1,9,6⟩,⟨3,2,1,9,0⟩,⟨2,1,2,7,7⟩]
def ov3:List Of:=[⟨1,2,1,2,5,3,2⟩,⟨3,1,2,1,2,1,1⟩]
theorem lp_s0(h:LInv p10 l12):aDa p10 l12 1 2 1=9∧aDa p10 l12 2 1 2=7:=⟨aHj h 1 (by unfold aB7;decide +kernel),aHj h 1 (by unfold aB7;decide +kernel)⟩
theorem lp_p0(h:LInv p10 l12):aGk p10 l12 2 1 1 5=lpA:=aHk h 1 (by unfold aB7;decide +kernel)
theorem lp_pA(h:LInv p10 lpA):aGk p10 lpA 1 2 2 5=lp1:=aHk h 1 (by unfold aB7;decide +kernel)
theorem lp_s1(h:LInv p10 lp1):aDa p10 lp1 1 2 1=4∧aDa p10 lp1 2 1 2=2:=⟨aHj h 1 (by unfold aB7;decide +kernel),aHj h 1 (by unfold aB7;decide +kernel)⟩
theorem lp_p1(h:LInv p10 lp1):aGk p10 lp1 2 1 1 1=lpB:=aHk h 1 (by unfold aB7;decide +kernel)
theorem lp_pB(h:LInv p10 lpB):aGk p10 lpB 1 2 2 2=lp2:=aHk h 1 (by unfold aB7;decide +kernel)
theorem lp_f0(h:LInv p10 l12):aBu p10 l12 ⟨2,2,1,2,5,1,1⟩ 1 1 5 5=lp1∧LInv p10 lp1:=by
 have e0:=lp_p0 h;have hA:LInv p10 lpA:=by rw[←e0];exact aEq h _ _ _ _
 have e1:=lp_pA hA;refine⟨?_,by rw[←e1];exact aEq hA _ _ _ _⟩;unfold aBu;rw[if_neg (by decide)];show aGk p10 (aGk p10 l12 2 1 1 5) 1 2 2 5=lp1;rw[e0,e1]
theorem lp_f1(h:LInv p10 lp1):aBu p10 lp1 ⟨1,2,1,2,5,3,2⟩ 1 1 1 2=lp2∧LInv p10 lp2:=by
 have e0:=lp_p1 h;have hB:LInv p10 lpB:=by rw[←e0];exact aEq h _ _ _ _
 have e1:=lp_pB hB;refine⟨?_,by rw[←e1];exact aEq hB _ _ _ _⟩;unfold aBu;rw[if_neg (by decide)];show aGk p10 (aGk p10 lp1 2 1 1 1) 1 2 2 2=lp2;rw[e0,e1]
theorem lp_step0(h:LInv p10 l12){nu de:Int}(hr:(nu=1∧de=1)∨(nu=2∧de=3)):aA6 p10 1 2 1 nu de 64 ⟨l12,ov0,[],7⟩=aA6 p10 1 2 1 nu de 63 ⟨lp1,ov1,[fv1],2⟩:=by
 have hm:mayS p10 l12 ov0 1 1 1099511627776 7 2=5:=by
  show mayO ⟨2,2,1,2,5,1,1⟩ p10 1 1 1099511627776 7 (aDa p10 l12 1 2 1) (aDa p10 l12 2 1 2)=5;rw[(lp_s0 h).1,(lp_s0 h).2];decide +kernel
 have hf:aA5 p10 l12 ov0 1 1 1099511627776 7 (agO ov0 2 1 nu de)=some (2,5):=by
  rcases hr with⟨rfl,rfl⟩|⟨rfl,rfl⟩
  ·rw[show agO ov0 2 1 1 1=[⟨2,2,1,2,5,1,1⟩] by decide +kernel];unfold aA5;rw[hm];rfl
  rw[show agO ov0 2 1 2 3=[⟨2,2,1,2,5,1,1⟩,⟨1,2,1,2,5,3,2⟩] by decide +kernel];unfold aA5;rw[hm];rfl
 rw[aD3 (s:=2) (k:=5) (by decide) hf (by simp)]
 have e:aIh p10 1 ⟨l12,ov0,[],7⟩ 2 5=⟨lp1,ov1,[fv1],2⟩:=by
  unfold aIh;rw[show aA3 ov0 2=some ⟨2,2,1,2,5,1,1⟩ by decide +kernel];simp only[];rw[show upN (5*1) 1=5 by decide +kernel,(lp_f0 h).1,show aCe ov0 2 5=ov1 by decide +kernel];rfl
 rw[e]
theorem lp_none:aA6 p10 1 2 1 1 1 63 ⟨lp1,ov1,[fv1],2⟩=(0,⟨lp1,ov1,[fv1],2⟩):=by
 refine aFp (by decide) ?_;show aA5 p10 lp1 ov1 1 1 1099511627776 2 (agO ov1 2 1 1 1)=none;rw[show agO ov1 2 1 1 1=[] by decide +kernel];rfl
theorem lp_step1(h:LInv p10 lp1):aA6 p10 1 2 1 2 3 63 ⟨lp1,ov1,[fv1],2⟩=(0,⟨lp2,ov2,[fv1,fv2],0⟩):=by
 have hm:mayS p10 lp1 ov1 1 1 1099511627776 2 1=1:=by
  show mayO ⟨1,2,1,2,5,3,2⟩ p10 1 1 1099511627776 2 (aDa p10 lp1 1 2 1) (aDa p10 lp1 2 1 2)=1;rw[(lp_s1 h).1,(lp_s1 h).2];decide +kernel
 have hf:aA5 p10 lp1 ov1 1 1 1099511627776 2 (agO ov1 2 1 2 3)=some (1,1):=by
  rw[show agO ov1 2 1 2 3=[⟨1,2,1,2,5,3,2⟩] by decide +kernel];unfold aA5;rw[hm];rfl
 rw[aD3 (s:=1) (k:=1) (by decide) hf (by simp)]
 have e:aIh p10 1 ⟨lp1,ov1,[fv1],2⟩ 1 1=⟨lp2,ov2,[fv1,fv2],0⟩:=by
  unfold aIh;rw[show aA3 ov1 1=some ⟨1,2,1,2,5,3,2⟩ by decide +kernel];simp only[];rw[show upN (1*3) 2=2 by decide +kernel,(lp_f1 h).1,show aCe ov1 1 1=ov2 by decide +kernel];rfl
 rw[e,aFo (by decide)]
theorem lp_pl1(h:LInv p10 l12):aDq p10 l12 ov0 3 1 2 1 7 1 1=(0,⟨lp1,ov3,[fv1],2⟩,4,3):=by
 unfold aDq;rw[if_neg (fun q=>q (by decide +kernel)),if_neg (by decide),lp_step0 h (.inl ⟨rfl,rfl⟩),lp_none];unfold aD4;rw[if_neg (by simp),if_neg (by decide)];dsimp only;rw[show aBo ov1 ⟨3,1,2,1,2,1,1⟩=0 by decide +kernel,show aCh ov1 ⟨3,1,2,1,2,1,1⟩=ov3 by decide +kernel,show aCi ov1 ⟨3,1,2,1,2,1,1⟩=4 by decide +kernel,show aDf ov1 ⟨3,1,2,1,2,1,1⟩=3 by decide +kernel]
theorem lp_pl2(h:LInv p10 l12):aDq p10 l12 ov0 3 1 2 1 7 2 3=(0,⟨lp2,ov2,[fv1,fv2],0⟩,3,0):=by
 unfold aDq;rw[if_neg (fun q=>q (by decide +kernel)),if_neg (by decide),lp_step0 h (.inr ⟨rfl,rfl⟩),lp_step1 (lp_f0 h).2];unfold aD4;rw[if_neg (by simp),if_pos (by decide)]
theorem pmayS_any(HMy:aDz){w:World}{base G M gb:Nat}{ps:List Int}{ls:List Ln}{l:List Of}{N:Int}{vb:Value}(hL:LedM w G M ps ls)(hI:LInv ps ls)(hP:PB w base gb l N vb)(hJ:BInv l N)
  (s tk pt want most:Int)(hs:0≤s∧s≤18446744073709551615)(ht:In8 tk)(hto:In8 pt)(hw:In64 want)(hmo:In64 most):
  Calls Tryz.prog 32 #[.agg #[.pointer (some ⟨G,0,none⟩),.pointer (some ⟨gb,0,none⟩)],.int .u64 s,.int .u8 tk,.int .u8 pt,.int .i64 want,.int .i64 most] w (yR w (.int .i64 (mayS ps ls l tk pt want most s))):=by
 obtain⟨m1,m2,g,_,_⟩:=aIc hI l s tk pt;rw[←aJ2 hI g];exact HMy hL hI hP hJ s tk pt want most m1 m2 hs ht hto hw hmo g
def PDoS(w:World)(base G M gb:Nat)(ps:List Int)(ls:List Ln)(l:List Of)(N:Int)(vb:Value)(s tk pt n:Int)(e:Ending)(w':World):Prop:=
 (¬okS ps ls l tk pt n s∧e=.returned (.tuple #[aG0,.int .i64 1])∧Below w.heap.size w w')∨
 (okS ps ls l tk pt n s∧∃o x vb',aA3 l s=some o∧x=upN (n*o.nu) o.de∧e=.returned (.tuple #[.agg #[.int .u64 s,.int .u8 tk,.int .u8 pt,.int .i64 n,.int .i64 x],.int .i64 0])∧
  LedM w' G M ps (aBu ps ls o tk pt n x)∧PB w' base gb (aCe l s n) N vb'∧Keep (fun k=>k=G∨k=M∨Foot gb vb k) w w'∧aC9 w vb vb')
theorem aJ5(HD:aFm){w:World}{base G M gb:Nat}{ps:List Int}{ls:List Ln}{l:List Of}{N:Int}{vb:Value}(hL:LedM w G M ps ls)(hI:LInv ps ls)(hP:PB w base gb l N vb)(hJ:BInv l N)
  (s tk pt n:Int)(hs:0≤s∧s≤18446744073709551615)(ht:In8 tk)(hto:In8 pt)(hn:In64 n):
  Calls Tryz.prog 87 #[.agg #[.pointer (some ⟨G,0,none⟩),.pointer (some ⟨gb,0,none⟩)],.int .u64 s,.int .u8 tk,.int .u8 pt,.int .i64 n] w (PDoS w base G M gb ps ls l N vb s tk pt n):=by
 obtain⟨m1,m2,g,_,_⟩:=aIc hI l s tk pt;refine(HD hL hI hP hJ s tk pt n m1 m2 hs ht hto hn g).mono ?_;rintro e w' (⟨a,b,c⟩|⟨a,o,x,ls',vb',b,c,d,f,h1,h2,h3,h4⟩)
 ·exact .inl ⟨fun q=>a ((aJ3 hI g).2 q),b,c⟩
 rw[d.eq (aGl hI o tk pt n x)]at h1;exact .inr ⟨(aJ3 hI g).1 a,o,x,vb',b,c,f,h1,h2,h3,h4⟩
end Go.Proofs.YtaeocliklpcgmaaGreat
