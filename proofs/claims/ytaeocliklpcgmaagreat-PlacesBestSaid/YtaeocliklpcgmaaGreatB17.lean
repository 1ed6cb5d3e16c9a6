/- Pieces of one proof. -/
import Derived.Test.YtaeocliklpcgmaaGreatB16
import Derived.Maps.AppendAt
import Derived.Deep.RegionLaw
import Derived.ChangeArms
import Derived.Lib.SmallJoins
set_option linter.all false
set_option maxHeartbeats 64000000
set_option maxRecDepth 100000
namespace Go.Proofs.YtaeocliklpcgmaaGreat
open Go.RowKit
theorem aFe{P:Program}{ops:Array Oper}{o:Oper}{a:Act}{w:World}{K:Act→World→Prop}{Q:Exit→Act→World→Prop}{E:Prop}
  (hg:o.guard=none)(s x:Operand)(t:TypeId)(hop:o.op=Op.call { callee:=Callee.builtin Builtin.append,args:=#[s,x],argTypes:=#[t,t] })
  (base:Nat)(e:TypeId){z:Value}(ht:P.underlying t=some (.slice e))(hz0:z.cells.size=7)(hi:(P.info? e).map (fun i=>(i.zero,i.size,i.bytes))=some (some z,7,40))(v:Value)(l:List Of)(hs:a.eval s=v)(hown:w.ownsRow base e 7 v l.length (aAa l))
  (g c:Nat)(y:Of)(hx:a.eval x=.slice (some ⟨g,0,none⟩) 1 c)(hy:Blk w g #[.int .u64 y.se,.int .u8 y.ow,.int .u8 y.sl,.int .u8 y.bu,.int .i64 y.lf,.int .i64 y.nu,.int .i64 y.de] e)(hlen:l.length≤100000)(hbase:base≤w.heap.size)
  (hK:∀v' w',w'.ownsRow base e 7 v' (l++[y]).length (aAa (l++[y]))→w.grownBy w' v.ownBlock→(v'.ownBlock=v.ownBlock∨v'.ownBlock=some w.heap.size)→K (a.put o.dst v') w'):
  if Region.wanted o (yielded ops a.tmps)=true then Oper.wp P o a w K Q else E:=by
 have hw:Region.wanted o (yielded ops a.tmps)=true:=by simp[Region.wanted,hg]
 rw[if_pos hw];obtain⟨i0,hi1,hi2,hi3,hi4⟩:=info_parts hi
 obtain⟨v',w',hr,h2,h3,_,h5⟩:=run_append_own_at (P:=P) w base t o.type e i0 z 7 40 ht hi1 hi2 hi3 hi4 hz0 (by decide) v l.length (aAa l) hown ⟨g,0,none⟩ 1 c y.vals rfl (fun j u hj=>by
   have:=hy.cell j;rw[Go.WideShapes.add_plain,Nat.zero_add,this]
   match j,hj with
   | 0,hj=>simpa [Of.vals]using hj
   | 1,hj=>simpa [Of.vals]using hj
   | 2,hj=>simpa [Of.vals]using hj
   | 3,hj=>simpa [Of.vals]using hj
   | 4,hj=>simpa [Of.vals]using hj
   | 5,hj=>simpa [Of.vals]using hj
   | 6,hj=>simpa [Of.vals]using hj
   | j+7,hj=>simp[Of.vals]at hj) (by intro u hu;simp[Of.vals]at hu;rcases hu with rfl|rfl|rfl|rfl|rfl|rfl|rfl <;> rfl) (by unfold maxLen;omega) (by omega) hbase
 rw[←aF1,←aAw]at h2;refine aJv s x t hop hs hx hr ?_;exact hK v' w' (by rw[List.length_append];exact h2) h3 h5
theorem BInv.place{l:List Of}{x:Of}(h:BInv l x.se):BInv (aCf l x) (aBt l x):=by
 unfold aCf aBt
 by_cases e:aBs l x=0
 ·rw[if_pos e,if_pos e];unfold aBs at e;split at e
  ·simp at e
  rename_i hm;have hm:=Decidable.not_not.1 hm;split at e
  ·simp at e
  rename_i h2;have:=h.len;have:=h.n1;have:=h.n2;have hl:l.length≠32:=fun k=>h2 (.inl k)
  have hs:x.se≠18446744073709551615:=fun k=>h2 (.inr k)
  refine⟨fun y hy=>?_,?_,fun y hy=>?_,by rw[List.length_append,List.length_singleton];omega,by omega,by omega⟩
  ·rcases List.mem_append.1 hy with hy|hy
   ·exact h.may y hy
   rw[List.mem_singleton]at hy;rw[hy];exact hm
  ·rw[List.pairwise_append];refine⟨h.rise,by simp,fun a ha b hb=>?_⟩;rw[List.mem_singleton]at hb;rw[hb];exact(h.bd a ha).2
  rcases List.mem_append.1 hy with hy|hy
  ·have:=h.bd y hy;omega
  rw[List.mem_singleton]at hy;rw[hy];omega
 rw[if_neg e,if_neg e];exact h
theorem PB.setN{w:World}{base g:Nat}{l:List Of}{N:Int}{vl:Value}(h:PB w base g l N vl)(M:Int):PB (w.setCell ⟨g,1,none⟩ (.int .u64 M)) base g l M vl:=by
 have k2:Keep (·=g) w (w.setCell ⟨g,1,none⟩ (.int .u64 M)):=Keep.setCell (S:=(·=g)) (Keep.refl _ _) (p:=⟨g,1,none⟩) (.inl rfl) _;exact⟨by simpa using h.blk.set 1 (.int .u64 M),h.ge,aBg h.row k2 (fun b hb e=>h.apart b hb e)⟩
theorem appended{W w':World}{base g cap:Nat}{ao:Option Addr}{l:List Of}{x:Of}{N:Int}{c:Obj}{v':Value}(h:PB W base g l N (.slice ao l.length cap))(ho:w'.ownsRow base 129 7 v' (l++[x]).length (aAa (l++[x])))
  (hgr:(W.drew.alloc c).grownBy w' (Value.ownBlock (.slice ao l.length cap)))(hat:v'.ownBlock=Value.ownBlock (.slice ao l.length cap)∨v'.ownBlock=some (W.drew.alloc c).heap.size):
  Blk w' g #[.slice ao l.length cap,.int .u64 N] 63∧(PB (w'.setCell ⟨g,0,none⟩ v') base g (l++[x]) N v'∧(Keep (Foot g (.slice ao l.length cap)) W (w'.setCell ⟨g,0,none⟩ v')∧aDf W (.slice ao l.length cap) v')∧
   ∀{a:Nat} {cs:Array Value} {t:TypeId},Blk W a cs t→(¬Foot g (.slice ao l.length cap) a)→Blk (w'.setCell ⟨g,0,none⟩ v') a cs t):=by
 have hB:Blk w' g #[.slice ao l.length cap,.int .u64 N] 63:=Blk.grown ((h.blk.drew).alloc _) hgr (fun e=>(h.apart _ e) rfl);have k2:Keep (·=g) w' (w'.setCell ⟨g,0,none⟩ v'):=Keep.setCell (S:=(·=g)) (Keep.refl _ _) (p:=⟨g,0,none⟩) (.inl rfl) _;have k1:Keep (Foot g (.slice ao l.length cap)) W w':=((Keep.refl _ W).drew.alloc _).grown hgr (fun k hk=>.inl (.inr hk));have hgl:=h.blk.lt;have k3:=k1.trans (k2.mono fun k _ hk=>.inl hk);refine⟨hB,⟨by simpa using hB.set 0 v',h.ge,aBg ho k2 ?_⟩,⟨k3,?_⟩,fun ha hf=>ha.keep k3 hf⟩
 ·intro b hb e;rcases hat with q|q
  ·rw[hb]at q;exact h.apart b q.symm e
  rw[hb]at q;cases q;rw[←e]at hgl;simp at hgl;omega
 intro b hb;rcases hat with q|q
 ·exact .inl (by rw[←q];exact hb)
 rw[hb]at q;cases q;exact .inr (by simp)
theorem pplace_r1{W:World}{R:Nat}{x:Of}{pv:Value}(HN:Hid (∀w',Below W.heap.size W w'→Calls Tryz.prog 27 #[pv] w' fun e w''=>e=.returned (.int .u64 x.se)∧w'=w''))(KR:Hid (Blk W R #[.int .i64 x.nu,.int .i64 x.de] 46)){Q:Exit→Act→World→Prop}{c5 c6 c7 c8 c9 c10 c12 c13 c14 c15 c16 c17 c18 c19 c20 c21 c22 c23 c24 c25 c26 c27 c28 c29 c30 c31 c32 c33 c34 c35 c36 c37 c38 c39 c40 c41 c42 c43 c44 c45 c46 c47 c48 c49 c50 c51 c52 c53 c54 c55 c56 c57 c58 c59 c60 c61:Value}
  (hq:∀a w6,W.heap.size≤a→Blk w6 a #[.int .u64 x.se,.int .u8 x.ow,.int .u8 x.sl,.int .u8 x.bu,.int .i64 x.lf,.int .i64 x.nu,.int .i64 x.de] 129→Below W.heap.size W w6→Q .normal ⟨#[pv,(.int .u8 x.ow),(.int .u8 x.sl),(.int .u8 x.bu),(.int .i64 x.lf),c5,c6,c7,c8,c9,c10,(.pointer (some ⟨R,0,none⟩)),c12,c13,(.pointer (some ⟨a,0,none⟩)),pv,(.int .u64 x.se),(.int .u8 x.ow),(.int .u8 x.sl),(.int .u8 x.bu),(.int .i64 x.lf),(.agg #[.int .i64 x.nu,.int .i64 x.de]),(.agg #[.int .u64 x.se,.int .u8 x.ow,.int .u8 x.sl,.int .u8 x.bu,.int .i64 x.lf,.int .i64 x.nu,.int .i64 x.de]),c23,c24,c25,c26,c27,c28,c29,c30,c31,c32,c33,c34,c35,c36,c37,c38,c39,c40,c41,c42,c43,c44,c45,c46,c47,c48,c49,c50,c51,c52,c53,c54,c55,c56,c57,c58,c59,c60,c61],[]⟩ w6):
  Code.wp Tryz.prog (((Tryz.f36.body).bind (aD2 1)).getD .skip) Q ⟨#[pv,(.int .u8 x.ow),(.int .u8 x.sl),(.int .u8 x.bu),(.int .i64 x.lf),c5,c6,c7,c8,c9,c10,(.pointer (some ⟨R,0,none⟩)),c12,c13,c14,c15,c16,c17,c18,c19,c20,c21,c22,c23,c24,c25,c26,c27,c28,c29,c30,c31,c32,c33,c34,c35,c36,c37,c38,c39,c40,c41,c42,c43,c44,c45,c46,c47,c48,c49,c50,c51,c52,c53,c54,c55,c56,c57,c58,c59,c60,c61],[]⟩ W:=by
 conv=>arg 2;whnf
 have HQ:=yH hq;clear hq
 refine aA3 (by kernel_rfl) (fun g:Nat→Nat=>[pv,(.int .u64 x.se),(.int .u8 x.ow),(.int .u8 x.sl),(.int .u8 x.bu),(.int .i64 x.lf),(.agg #[.int .i64 x.nu,.int .i64 x.de]),(.agg #[.int .u64 x.se,.int .u8 x.ow,.int .u8 x.sl,.int .u8 x.bu,.int .i64 x.lf,.int .i64 x.nu,.int .i64 x.de]),(.pointer (some ⟨g 8,0,none⟩)),undef])
  (Lays W [(⟨8,9,(.cells #[.int .u64 0,.int .u8 0,.int .u8 0,.int .u8 0,.int .i64 0,.int .i64 0,.int .i64 0] 129),(.cells #[.int .u64 x.se,.int .u8 x.ow,.int .u8 x.sl,.int .u8 x.bu,.int .i64 x.lf,.int .i64 x.nu,.int .i64 x.de] 129)⟩:Spec)]) (by kernel_rfl) (fun _=>0) (Lays.start _ _ _) ?_
 intro AF hAF;simp only[yG,puts,Act.put,yA,yC,yF,yD,yE]at hAF;have hAF2:_=AF:=funext hAF;subst hAF2;clear hAF;refine⟨?_,?_⟩
 ·simp only[yG,aEy];refine⟨?_,?_,?_,?_,?_,?_,?_,?_,?_,?_,trivial⟩
  ·intro g D w' hD hW hC hI;refine⟨g,fun _ _ _=>rfl,?_⟩;with_reducible refine yO rfl ?_
   have hS:=hI.below;have HS:=yH (hI.step yZ (k:=0) (by rfl));clear hI hS hC hW hD;go_wp2_with fail;all_goals first|exact HS|exact⟨rfl,HS⟩|rfl
  ·intro g D w' hD hW hC hI;refine⟨g,fun _ _ _=>rfl,?_⟩;with_reducible refine yO rfl ?_
   have hS:=hI.below;have HI:=yH hI;have HC:=yH (HN.out w' hS);clear hI hS hC hW hD;go_wp2_with fail;refine HC.out.mono ?_;rintro e w'' ⟨rfl,rfl⟩;exact⟨rfl,HI.out.step yZ (by rfl)⟩
  ·intro g D w' hD hW hC hI;refine⟨g,fun _ _ _=>rfl,?_⟩;with_reducible refine yO rfl ?_
   have hS:=hI.below;have HS:=yH (hI.step yZ (k:=2) (by rfl));clear hI hS hC hW hD;go_wp2_with fail;all_goals first|exact HS|exact⟨rfl,HS⟩|rfl
  ·intro g D w' hD hW hC hI;refine⟨g,fun _ _ _=>rfl,?_⟩;with_reducible refine yO rfl ?_
   have hS:=hI.below;have HS:=yH (hI.step yZ (k:=3) (by rfl));clear hI hS hC hW hD;go_wp2_with fail;all_goals first|exact HS|exact⟨rfl,HS⟩|rfl
  ·intro g D w' hD hW hC hI;refine⟨g,fun _ _ _=>rfl,?_⟩;with_reducible refine yO rfl ?_
   have hS:=hI.below;have HS:=yH (hI.step yZ (k:=4) (by rfl));clear hI hS hC hW hD;go_wp2_with fail;all_goals first|exact HS|exact⟨rfl,HS⟩|rfl
  ·intro g D w' hD hW hC hI;refine⟨g,fun _ _ _=>rfl,?_⟩;with_reducible refine yO rfl ?_
   have hS:=hI.below;have HS:=yH (hI.step yZ (k:=5) (by rfl));clear hI hS hC hW hD;go_wp2_with fail;all_goals first|exact HS|exact⟨rfl,HS⟩|rfl
  ·intro g D w' hD hW hC hI;refine⟨g,fun _ _ _=>rfl,?_⟩;with_reducible refine yO rfl ?_
   have hS:=hI.below;have hl0:=yM KR.out.lt hS.size;have d0_0:=(KR.out.below hS KR.out.lt).cell 0;have d0_1:=(KR.out.below hS KR.out.lt).cell 1;simp at d0_0 d0_1;have HS:=yH (hI.step yZ (k:=6) (by rfl));clear hI hS hC hW hD;go_wp2_with fail;all_goals first|exact HS|exact⟨rfl,HS⟩|rfl
  ·intro g D w' hD hW hC hI;refine⟨g,fun _ _ _=>rfl,?_⟩;with_reducible refine yO rfl ?_
   have hS:=hI.below;have HS:=yH (hI.step yZ (k:=7) (by rfl));clear hI hS hC hW hD;go_wp2_with fail;all_goals first|exact HS|exact⟨rfl,HS⟩|rfl
  ·intro g D w' hD hW hC hI;have hN:D 9=false:=aBc hC hD 12 9 (by kernel_rfl);refine⟨upd g 8 w'.heap.size,aCz _ (fun g:Nat→Nat=>[pv,(.int .u64 x.se),(.int .u8 x.ow),(.int .u8 x.sl),(.int .u8 x.bu),(.int .i64 x.lf),(.agg #[.int .i64 x.nu,.int .i64 x.de]),(.agg #[.int .u64 x.se,.int .u8 x.ow,.int .u8 x.sl,.int .u8 x.bu,.int .i64 x.lf,.int .i64 x.nu,.int .i64 x.de]),(.pointer (some ⟨g 8,0,none⟩)),undef]) g 8 _ 12 hC hD ?_,?_⟩
   ·intro j hj
    match j,hj with
    | 0,_=>exact .inr rfl
    | 1,_=>exact .inr rfl
    | 2,_=>exact .inr rfl
    | 3,_=>exact .inr rfl
    | 4,_=>exact .inr rfl
    | 5,_=>exact .inr rfl
    | 6,_=>exact .inr rfl
    | 7,_=>exact .inr rfl
    | 8,_=>exact .inl (.inl rfl)
    | 9,_=>exact .inr rfl
    | j+10,_=>exact .inr rfl
   with_reducible refine yO rfl ?_
   have HS:=yH (hI.lay (⟨8,9,(.cells #[.int .u64 0,.int .u8 0,.int .u8 0,.int .u8 0,.int .i64 0,.int .i64 0,.int .i64 0] 129),(.cells #[.int .u64 x.se,.int .u8 x.ow,.int .u8 x.sl,.int .u8 x.bu,.int .i64 x.lf,.int .i64 x.nu,.int .i64 x.de] 129)⟩:Spec) (by simp) (by rfl) (.inr hN) (by rfl) (fun s' hs' _=>List.mem_singleton.1 hs') (.cells #[.int .u64 0,.int .u8 0,.int .u8 0,.int .u8 0,.int .i64 0,.int .i64 0,.int .i64 0] 129) rfl);clear hI hC hW hD hN;go_wp2_with fail;all_goals first|exact HS|exact⟨rfl,HS⟩|rfl
  intro g D w' hD hW hC hI;have hP:D 8=true:=aA1 hC hW (d:=12) (by kernel_rfl);obtain⟨hg,hk⟩:=hI.zeroed (⟨8,9,(.cells #[.int .u64 0,.int .u8 0,.int .u8 0,.int .u8 0,.int .i64 0,.int .i64 0,.int .i64 0] 129),(.cells #[.int .u64 x.se,.int .u8 x.ow,.int .u8 x.sl,.int .u8 x.bu,.int .i64 x.lf,.int .i64 x.nu,.int .i64 x.de] 129)⟩:Spec) (by simp) hP hD;refine⟨g,fun _ _ _=>rfl,?_⟩;with_reducible refine yO rfl ?_
  refine wp_store_row 129 (.tmp 14) (.tmp 22) rfl (g 8) #[.int .u64 x.se,.int .u8 x.ow,.int .u8 x.sl,.int .u8 x.bu,.int .i64 x.lf,.int .i64 x.nu,.int .i64 x.de] rfl rfl 129 _ hk (by kernel_rfl) rfl (by simp[Value.oneCell']) ⟨rfl,?_⟩;exact hI.fill (⟨8,9,(.cells #[.int .u64 0,.int .u8 0,.int .u8 0,.int .u8 0,.int .i64 0,.int .i64 0,.int .i64 0] 129),(.cells #[.int .u64 x.se,.int .u8 x.ow,.int .u8 x.sl,.int .u8 x.bu,.int .i64 x.lf,.int .i64 x.nu,.int .i64 x.de] 129)⟩:Spec) (by simp) (by rfl) (show(9:Nat)≠8 by decide) (fun s' hs' _=>List.mem_singleton.1 hs') hP (aAe _ _) (setRow_heap w' (g 8) _ _ 129 (0,0) hk)
 intro g D w6 hall hI;obtain⟨h1,h2⟩:=hI.full (⟨8,9,(.cells #[.int .u64 0,.int .u8 0,.int .u8 0,.int .u8 0,.int .i64 0,.int .i64 0,.int .i64 0] 129),(.cells #[.int .u64 x.se,.int .u8 x.ow,.int .u8 x.sl,.int .u8 x.bu,.int .i64 x.lf,.int .i64 x.nu,.int .i64 x.de] 129)⟩:Spec) (by simp) (hall 8 (by decide)) (hall 9 (by decide));exact HQ.out (g 8) w6 h1 h2 hI.below
theorem aFr{w:World}{base g:Nat}{l:List Of}{x:Of}{vl:Value}(h:PB w base g l x.se vl)(hI:BInv l x.se)(hx:x.Fits):
  Calls Tryz.prog 36 #[.pointer (some ⟨g,0,none⟩),.int .u8 x.ow,.int .u8 x.sl,.int .u8 x.bu,.int .i64 x.lf,.agg #[.int .i64 x.nu,.int .i64 x.de]] w fun e w'=>e=.returned (.tuple #[.int .u64 (aC9 l x),.int .i64 (aBs l x)])∧∃vl',PB w' base g (aCf l x) (aBt l x) vl'∧Keep (Foot g vl) w w'∧aDf w vl vl':=by
 have bw:=(Below.refl w.heap.size w).alloc yL (.cells #[.int .i64 x.nu,.int .i64 x.de] 46);have H1:=yH (h.below bw);have KR:=yH (pAA w #[.int .i64 x.nu,.int .i64 x.de] 46);have B1:=yH bw;have HI:=yH hI;have HX:=yH hx;have HG:=yH (h.below bw).blk;have HL:=yH (fun b (hb:Foot g vl b)=>(h.lt hb).2);clear bw h hI hx;go_enter Tryz.func36,Tryz.ntmps36;go_wp2_with fail;generalize hWW:w.alloc (.cells #[.int .i64 x.nu,.int .i64 x.de] 46)=W at *;clear hWW;refine pplace_r1 (yH (fun w' k=>aI9 (HG.out.below k HG.out.lt))) KR ?_;intro a w2 ha hA b2;have H2:=yH (H1.out.below b2);have B2:=yT B1 b2;have HA:=yH hA;have HAF:=yH (show ¬Foot g vl a from fun hf=>by have:=HL.out a hf;have:=B1.out.size;omega);have CM:=yH (aJa H2.out.blk HI.out.n1);have CY:=yH (pmay_any x w2 HX.out);have kl:=hA.lt;have a0:=hA.cell 0;have a1:=hA.cell 1;have a2:=hA.cell 2;have a3:=hA.cell 3;have a4:=hA.cell 4;have a5:=hA.cell 5;have a6:=hA.cell 6;simp at a0 a1 a2 a3 a4 a5 a6;have hlen:=HI.out.len;clear ha hA b2 H1 B1 HG KR HL
 by_cases hm:¬x.may
 ·have e1:aBs l x=1:=by unfold aBs;rw[if_pos hm]
  have E:=yH (show aBs l x=1∧aC9 l x=0∧aCf l x=l∧aBt l x=x.se from⟨e1,by unfold aC9;rw[e1];rfl,by unfold aCf;rw[e1];rfl,by unfold aBt;rw[e1];rfl⟩);rw[decide_eq_false hm]at CY;clear e1 hm;go_wp2_with fail;refine CM.out.mono ?_;rintro e w2 ⟨rfl,rfl⟩;go_wp2_with fail;refine CY.out.mono ?_;rintro e w3 ⟨rfl,b3⟩;have H3:=yH (H2.out.below b3);have B3:=yT B2 b3;clear b3 H2 B2 CM CY a0 a1 a2 a3 a4 a5 a6 kl;go_wp2_with fail;refine bodyPost_ret (v:=.tuple #[.int .u64 0,.int .i64 1]) (by simp[results,Tryz.results36,go_sem]) rfl ?_;rw[E.out.1,E.out.2.1,E.out.2.2.1,E.out.2.2.2];exact⟨rfl,vl,H3.out,pAE B3.out,aDf.refl _ _⟩
 have hm:=Decidable.not_not.1 hm;rw[decide_eq_true hm]at CY;obtain⟨ao,cap,hvl,hc1,hc2,_⟩:=aAg H2.out.row;subst hvl;unfold maxLen at hc2;go_wp2_with fail;refine CM.out.mono ?_;rintro e w2 ⟨rfl,rfl⟩;go_wp2_with fail;refine CY.out.mono ?_;rintro e w3 ⟨rfl,b3⟩;have HG4:=yH (H2.out.below b3);have HA4:=yB HA b3;have HA4b:=HAF;have B3:=yT B2 b3;clear b3 H2 B2 CM CY a0 a1 a2 a3 a4 a5 a6 kl HA HAF;have hgl:=HG4.out.blk.lt;have d0:=HG4.out.blk.cell 0;have a0:=HA4.out.cell 0;have hal:=HA4.out.lt;simp at d0 a0
 by_cases hf:l.length=32∨x.se=18446744073709551615
 ·have e1:aBs l x=9:=by unfold aBs;rw[if_neg (by simpa using hm),if_pos hf]
  have E:=yH (show aBs l x=9∧aC9 l x=0∧aCf l x=l∧aBt l x=x.se from⟨e1,by unfold aC9;rw[e1];rfl,by unfold aCf;rw[e1];rfl,by unfold aBt;rw[e1];rfl⟩);clear e1
  by_cases h32:l.length=32
  ·have q1:((l.length:Int)==32)=true:=by rw[h32];rfl
   clear hf h32;go_wp2_with fail;refine bodyPost_ret (v:=.tuple #[.int .u64 0,.int .i64 9]) (by simp[results,Tryz.results36,go_sem]) rfl ?_;rw[E.out.1,E.out.2.1,E.out.2.2.1,E.out.2.2.2];exact⟨rfl,_,HG4.out,pAE B3.out,aDf.refl _ _⟩
  have q1:((l.length:Int)==32)=false:=by simp;omega
  have hse:x.se=18446744073709551615:=by rcases hf with h|h;exact absurd h h32;exact h
  have q2:(x.se==18446744073709551615)=true:=by simpa using hse
  have HSE:=yH hse;clear hf h32 hse;go_wp2_with fail;refine bodyPost_ret (v:=.tuple #[.int .u64 0,.int .i64 9]) (by simp[results,Tryz.results36,go_sem]) rfl ?_;rw[E.out.1,E.out.2.1,E.out.2.2.1,E.out.2.2.2];exact⟨rfl,_,HG4.out,pAE B3.out,aDf.refl _ _⟩
 have e1:aBs l x=0:=by unfold aBs;rw[if_neg (by simpa using hm),if_neg hf]
 have E:=yH (show aBs l x=0∧aC9 l x=x.se∧aCf l x=l++[x]∧aBt l x=x.se+1 from⟨e1,by unfold aC9;rw[if_pos e1],by unfold aCf;rw[if_pos e1],by unfold aBt;rw[if_pos e1]⟩);have q1:((l.length:Int)==32)=false:=by simp;omega
 have q2:(x.se==18446744073709551615)=false:=by simp;omega
 have hn:=HI.out.n2;have hn1:=HI.out.n1;have hse0:0≤x.se+1:=by omega
 have hse1:x.se+1≤18446744073709551615:=by omega
 clear e1 hf;go_wp2_with fail;clear d0 a0 hgl hal;generalize w3=W at *;have hgl:=HG4.out.blk.lt;have d0:=HG4.out.blk.cell 0;simp at d0;have hal:=HA4.out.lt;have a0:=HA4.out.cell 0;have a1:=HA4.out.cell 1;have a2:=HA4.out.cell 2;have a3:=HA4.out.cell 3;have a4:=HA4.out.cell 4;have a5:=HA4.out.cell 5;have a6:=HA4.out.cell 6;simp at a0 a1 a2 a3 a4 a5 a6;have hbs:=Nat.le_trans HG4.out.ge (Nat.le_of_lt hgl)
 go_region_law (refine aFe rfl (.tmp 47) (.tmp 49) 61 rfl base 129 Tryz.underlying61 rfl aGr (.slice ao l.length cap) l rfl (aAp HG4.out.row (yZ.drew.alloc yL _)) W.heap.size 1 x rfl (pAA W.drew _ _) (by omega) (by simp;omega) ?_;intro v' w' ho hgr hat;have HAP:=yH (appended HG4.out ho hgr hat);have hB:=HAP.out.1;have d1:=hB.cell 0;have f1:=hB.frozen 0;have l1:=hB.lt;simp at d1;obtain⟨ao',cap',hv',_⟩:=aAg ho;obtain⟨ln,hln⟩:∃ln,(l++[x]).length=ln:=⟨_,rfl⟩;rw[hln]at hv';subst hv';clear hln;clear ho hgr hat hB d0)
 all_goals
  have HE:=yH HAP.out.2;clear HAP d1 f1 l1;have e0:=HE.out.1.blk.cell 1;have e1:=HE.out.1.blk.lt;have e2:=HE.out.1.blk.frozen 1;have e3:=HE.out.2.2 HA4.out HA4b.out;have e4:=e3.cell 0;have e5:=e3.lt;simp at e0 e4;clear e3;go_wp2;refine bodyPost_ret (v:=.tuple #[.int .u64 x.se,.int .i64 0]) (by simp[results,Tryz.results36,go_sem]) rfl ?_;have k3:Keep (·=g) (w'.setCell ⟨g,0,none⟩ (.slice ao' ln cap')) ((w'.setCell ⟨g,0,none⟩ (.slice ao' ln cap')).setCell ⟨g,1,none⟩ (.int .u64 (x.se+1))):=Keep.setCell (S:=(·=g)) (Keep.refl _ _) (p:=⟨g,1,none⟩) (.inl rfl) _;rw[E.out.1,E.out.2.1,E.out.2.2.1,E.out.2.2.2];exact⟨rfl,_,HE.out.1.setN _,(pAE B3.out).trans (HE.out.2.1.1.trans (k3.mono fun k _ hk=>.inl hk)),HE.out.2.1.2.of_le B3.out.size⟩
def putB(x:Of)(σ:List Of×Int):List Of×Int:=(aCf σ.1 ⟨σ.2,x.ow,x.sl,x.bu,x.lf,x.nu,x.de⟩,aBt σ.1 ⟨σ.2,x.ow,x.sl,x.bu,x.lf,x.nu,x.de⟩)
def offsB(xs:List Of):List Of×Int:=xs.foldl (fun σ x=>putB x σ) ([],1)
theorem offsB_next{xs:List Of}{k:Nat}(h:k<xs.length){l:List Of}{N:Int}(e:offsB (xs.take k)=(l,N)):offsB (xs.take (k+1))=putB xs[k] (l,N):=by
 unfold offsB at *;rw[List.take_succ_eq_append_getElem h,List.foldl_append,e];rfl
theorem SlIn.off{w:World}{a:Option Addr}{len cap:Nat}{xs:List Of}(h:SlIn Of.vals 7 Of.Fits w a len cap xs){i:Nat}(hi:i<xs.length):
  ∃b off,a=some ⟨b,off,none⟩∧b<w.heap.size∧w.cell? ⟨b,off+i*7,none⟩=some (.int .u64 xs[i].se)∧w.cell? ⟨b,off+i*7+1,none⟩=some (.int .u8 xs[i].ow)∧w.cell? ⟨b,off+i*7+2,none⟩=some (.int .u8 xs[i].sl)∧w.cell? ⟨b,off+i*7+3,none⟩=some (.int .u8 xs[i].bu)∧
   w.cell? ⟨b,off+i*7+4,none⟩=some (.int .i64 xs[i].lf)∧w.cell? ⟨b,off+i*7+5,none⟩=some (.int .i64 xs[i].nu)∧w.cell? ⟨b,off+i*7+6,none⟩=some (.int .i64 xs[i].de):=by
 obtain⟨h0,h1,h2,h3,h4,h5⟩:=h;obtain⟨b,off,rfl,hlt,hc⟩:=h5 (by omega);exact⟨b,off,rfl,hlt,hc i hi 0 _ rfl,hc i hi 1 _ rfl,hc i hi 2 _ rfl,hc i hi 3 _ rfl,hc i hi 4 _ rfl,hc i hi 5 _ rfl,hc i hi 6 _ rfl⟩
def MadePost10(w:World)(xs:List Ac)(os:List Of)(e:Ending)(w':World):Prop:=
 ∃G M gb ps ls l N vl,e=.returned (.agg #[.pointer (some ⟨G,0,none⟩),.pointer (some ⟨gb,0,none⟩)])∧LedM w' G M ps ls∧LInv ps ls∧w.heap.size≤G∧w.heap.size≤M∧PB w' w.heap.size gb l N vl∧BInv l N∧N≤(os.length:Int)+1∧
  gb<G∧gb<M∧(∀b,vl.ownBlock=some b→b<G∧b<M)∧Below w.heap.size w w'∧actsL xs=(ps,ls)∧offsB os=(l,N)
def MadeAt10(W:World)(gb len:Nat)(os:List Of)(i:Value)(wr:World):Prop:=
 ∃k:Nat,k≤len∧i=.int .i64 k∧∃l N vl,PB wr W.heap.size gb l N vl∧BInv l N∧N≤(k:Int)+1∧Below W.heap.size W wr∧Hid (offsB (os.take k)=(l,N))
theorem made10_any{w:World}{a1 a2:Option Addr}{n1 n2 c1 c2:Nat}{xs:List Ac}{os:List Of}(h1:aGm w a1 n1 c1 xs)(h2:SlIn Of.vals 7 Of.Fits w a2 n2 c2 os)(hl1:n1≤120)(hl2:n2≤40):
  Calls Tryz.prog 9 #[.agg #[.slice a1 n1 c1,.slice a2 n2 c2]] w (MadePost10 w xs os):=by
 have hg1:(w.alloc (.cells #[.slice a1 n1 c1,.slice a2 n2 c2] 25)).heap.size=w.heap.size+1:=by simp
 have b1:=(Below.refl w.heap.size w).alloc yL (.cells #[.slice a1 n1 c1,.slice a2 n2 c2] 25);have k1:=pAA w #[.slice a1 n1 c1,.slice a2 n2 c2] 25;generalize hW1:w.alloc (.cells #[.slice a1 n1 c1,.slice a2 n2 c2] 25)=W1 at *;have b2:=(Below.refl W1.heap.size W1).alloc yL (.cells #[.pointer none,.pointer none] 31);have k2:=pAA W1 #[.pointer none,.pointer none] 31;rw[hg1]at k2;generalize hW2:W1.alloc (.cells #[.pointer none,.pointer none] 31)=W2 at *;have HW1:=yH hW1;have HW2:=yH hW2;have KX:=yH (k1.below b2 k1.lt);have KF:=yH k2;have HA:=yH ((h1.below b1).below b2);have HO:=yH ((h2.below b1).below b2);have B1:=yH (b1.trans (b2.mono b1.size));have hol:os.length=n2:=h2.2.1;have hcap:=h2.2.2.2.1;have hmax:=h2.2.2.2.2.1;unfold maxLen at hmax;clear h1 h2 b1 b2 k1 k2 hW1 hW2 hg1;go_enter Tryz.func9,Tryz.ntmps9
 go_upto_region 1 with fail
 rw[HW1.out,HW2.out];go_wp2_with fail;refine(pnew_any W2 W2.heap.size yL).mono ?_;rintro e w0 ⟨rfl,h0,hb0⟩;have H0:=yH h0;have B0:=yH hb0;clear h0 hb0;go_wp2_with fail
 go_loopw [4] (MadeAt10 W2 W2.heap.size n2 os) (fun i _=>n2 - (intOf i).toNat)
 case atStart=>exact⟨0,Nat.zero_le _,rfl,[],1,_,H0.out,BInv.nil (by omega) (by omega),by omega,B0.out,yH rfl⟩
 obtain⟨k,hk,rfl,l,N,vl,hP,hI,hN,hB,hAct⟩:=hrel;have HP:=yH hP;have HI:=yH hI;have HB:=yH hB;have KX1:=yB KX hB;have e0:=KX1.out.cell 0;have e1:=KX1.out.cell 1;have kx:=KX1.out.lt;simp at e0 e1;clear hP hI hB
 by_cases hkl:k<n2
 ·obtain⟨b,off,rfl,hb,d0,d1,d2,d3,d4,d5,d6⟩:=(HO.out.below HB.out).off (i:=k) (by omega);have hx:=HO.out.2.2.1 os[k] (List.getElem_mem _);have AT:=yH (offsB_next (by omega) hAct.out);generalize hxe:os[k]=x at *;clear hxe;have bw:=(Below.refl wr.heap.size wr).alloc yL (.cells #[.int .u64 x.se,.int .u8 x.ow,.int .u8 x.sl,.int .u8 x.bu,.int .i64 x.lf,.int .i64 x.nu,.int .i64 x.de] 48);have HW:=yH (HP.out.below bw);have BW:=yT HB bw;have KX2:=yB KX1 bw;clear bw;have C:=yH (aFr (x:=⟨N,x.ow,x.sl,x.bu,x.lf,x.nu,x.de⟩) HW.out HI.out ⟨⟨by have:=HI.out.n1;show 0≤N;omega,HI.out.n2⟩,hx.ow,hx.sl,hx.bu,hx.lf,hx.nu,hx.de⟩);have HI2:=yH (BInv.place (x:=⟨N,x.ow,x.sl,x.bu,x.lf,x.nu,x.de⟩) HI.out);have HN:=yH (show(aBt l ⟨N,x.ow,x.sl,x.bu,x.lf,x.nu,x.de⟩:Int)≤(k:Int)+1+1 from by have e:aBt l ⟨N,x.ow,x.sl,x.bu,x.lf,x.nu,x.de⟩≤N+1:=(by unfold aBt;split <;> (dsimp only;omega));omega);clear hx;go_wp2_with fail;refine C.out.mono ?_;rintro e w2 ⟨rfl,vl2,h2,k2,m2⟩;have H2:=yH h2;have B2:=yH (BW.out.trans (k2.below BW.out.size (fun j hj hf=>by have:=(HW.out.lt hf).1;omega)));clear h2 k2 m2 C;go_wp2_with fail;go_roundw
  case rel=>exact⟨k+1,by omega,by go_num,_,_,_,H2.out,HI2.out,by have:=HN.out;omega,B2.out,AT⟩
  case measure=>simp[intOf];omega
 have CM:=yH (made_actsF (HA.out.below HB.out) hl1);have KF1:=yH (KF.out.below HB.out KF.out.lt);have f0:=KF1.out.cell 0;have f1:=KF1.out.cell 1;have kf:=KF1.out.lt;simp at f0 f1;go_wp2_with fail;refine CM.out.mono ?_;rintro e w3 ⟨G,M,ps,ls,rfl,h4,h5,h6,h7,b3,h8⟩;have KF3:=yB KF1 b3;have HL3:=yH h4;have II:=yH h5;have HG:=yH (And.intro h6 h7);have HP3:=yH (HP.out.below b3);have BB:=yH b3;have AC:=yH h8;clear h4 h5 h6 h7 b3 h8 e0 e1 kx f0 f1 kf CM;have f0:=KF3.out.cell 0;have f1:=KF3.out.cell 1;have kf:=KF3.out.lt;simp at f0 f1;go_wp2_with (refine aAb rfl 31 (.tmp 2) (.tmp 35) rfl (w.heap.size+1) #[.pointer (some ⟨G,0,none⟩),.pointer (some ⟨W2.heap.size,0,none⟩)] rfl rfl 31 _ KF3.out.out (by kernel_rfl) rfl (by simp[Value.oneCell']) ?_);refine bodyPost_ret (v:=.agg #[.pointer (some ⟨G,0,none⟩),.pointer (some ⟨W2.heap.size,0,none⟩)]) (results_cell_row rfl _ _ (w.heap.size+1) 31 #[.pointer (some ⟨G,0,none⟩),.pointer (some ⟨W2.heap.size,0,none⟩)] (0,0) _ rfl (setRow_heap _ (w.heap.size+1) _ _ _ (0,0) KF3.out.out) Tryz.underlying31 rfl (by kernel_rfl)) rfl ?_;have kk:=aAe (w:=w3) (w.heap.size+1) #[.pointer (some ⟨G,0,none⟩),.pointer (some ⟨W2.heap.size,0,none⟩)];have s1:=B1.out.size;have s2:=HB.out.size;have s3:=KF.out.lt;obtain⟨h6,h7⟩:=HG.out;have hfoot:=fun b hb=>(HP.out.lt (b:=b) (.inr hb))
 have hgb:=HP.out.blk.lt;have hAll:=hAct.out;rw[List.take_of_length_le (by omega)]at hAll;have hPB:=HP3.out.keep kk (by omega) (fun b hb=>by have:=hfoot b hb;omega)
 exact⟨G,M,W2.heap.size,ps,ls,l,N,vl,rfl,HL3.out.keep kk (by omega) (by omega),II.out,by omega,by omega,⟨hPB.blk,by omega,aIk hPB.row (by omega)⟩,HI.out,by omega,by omega,by omega,
  fun b hb=>by have:=hfoot b hb;omega,(B1.out.trans ((HB.out.trans (BB.out.mono s2)).mono s1)).trans (kk.below (by have:=BB.out.size;omega) (fun k hk h=>by omega)),AC.out,hAll⟩
end Go.Proofs.YtaeocliklpcgmaaGreat
namespace Go.Proofs.YtaeocliklpcgmaaGreat
open Go.RowKit Go.ChangeShapes Go.WideShapes Go.Deep Go.Joins
structure Wd where
 a1:Option Addr
 n1:Nat
 c1:Nat
 xs:List Ac
 a2:Option Addr
 n2:Nat
 c2:Nat
 os:List Of
structure Wd.In(x:Wd)(w:World):Prop where
 acts:aGm w x.a1 x.n1 x.c1 x.xs
 offs:SlIn Of.vals 7 Of.Fits w x.a2 x.n2 x.c2 x.os
section
variable{H:Type}{enc:TypeId×Value→H}{P:Program}{w:World}{base:Nat}{spare:Nat→Bool}{held:Bool}
end
section
variable{H:Type}{enc:TypeId×Value→H}{w:World}{base:Nat}{spare:Nat→Bool}{held:Bool}
theorem aMp{P:Program}{t e:TypeId}{n:Nat}{v:Value}{y:DataW H×List MemPlace}(ht:P.underlying t=some (.slice e))(h:DataW.trod enc P w base spare held n t [v]=some y):∃a len cap,v=.slice a len cap:=by
 rcases open_slice ht h with⟨h0,_⟩|⟨ad,l,c,m,n,D,Pl,hcs,_⟩
 ·exact⟨_,_,_,(List.cons.inj h0).1⟩
 exact⟨_,_,_,(List.cons.inj hcs).1⟩
theorem world_open{r:Reach}{b0:Nat}{v:Value}{d:DataW H}{p:List MemPlace}(hv:Value.okWide Tryz.prog w r b0 25 v)(h:DataW.Trod enc Tryz.prog w base spare held 25 v d p):
  ∃x:Wd,v=.agg #[.slice x.a1 x.n1 x.c1,.slice x.a2 x.n2 x.c2]∧x.In w:=by
 obtain⟨v0,v1,y0,y1,n,rfl,rfl,rfl,h0,h1⟩:=open_agg2 Tryz.underlying25 (by kernel_rfl) (by kernel_rfl) hv h;obtain⟨a1,n1,c1,rfl⟩:=aMp Tryz.underlying22 h0;obtain⟨a2,n2,c2,rfl⟩:=aMp Tryz.underlying23 h1;obtain⟨xs,hx⟩:=acts_open (a:=a1) (len:=n1) (cap:=c1) ⟨n,h0⟩;obtain⟨os,ho⟩:=aNp (a:=a2) (len:=n2) (cap:=c2) ⟨n,h1⟩;exact⟨⟨a1,n1,c1,xs,a2,n2,c2,os⟩,rfl,hx,ho⟩
end
end Go.Proofs.YtaeocliklpcgmaaGreat
namespace Go.Proofs.YtaeocliklpcgmaaGreat
open Go.RowKit
theorem Keep.trans_new{S T:Nat→Prop}{a b c:World}(h:Keep S a b)(k:Keep T b c)(hT:∀j,j<a.heap.size→T j→S j):Keep S a c:=
 ⟨k.os.trans h.os,k.tape.trans h.tape,k.output.trans h.output,Nat.le_trans h.size k.size,fun i hi hs=>(k.block i (yM hi h.size) (fun t=>hs (hT i hi t))).trans (h.block i hi hs)⟩
theorem aKi{w:World}{b1 b2 s1 s2 n1 n2:Nat}{e1 e2:TypeId}{v1 v2:Value}{xs ys:List Value}(h:w.ownsRow b1 e1 s1 v1 n1 xs)(g:w.ownsRow b2 e2 s2 v2 n2 ys)(hne:e1≠e2):∀b,v1.ownBlock=some b→¬v2.ownBlock=some b:=fun b hb hg=>by
 obtain⟨_,_,c1,k1⟩:=aAh h hb;obtain⟨_,_,c2,k2⟩:=aAh g hg;have:=k1.symm.trans k2;simp at this;exact hne this.2
def aDg:Prop:=∀{w:World} {base G M gb:Nat} {ps:List Int} {ls:List Ln} {l:List Of} {N:Int} {vb:Value},LedM w G M ps ls→LInv ps ls→PB w base gb l N vb→BInv l N→
 ∀(s tk pt want most m1 m2:Int),(0≤s∧s≤18446744073709551615)→In8 tk→In8 pt→In64 want→In64 most→(∀o,aA4 l s=some o→Goes ps ls o tk pt m1 m2)→
 Calls Tryz.prog 32 #[.agg #[.pointer (some ⟨G,0,none⟩),.pointer (some ⟨gb,0,none⟩)],.int .u64 s,.int .u8 tk,.int .u8 pt,.int .i64 want,.int .i64 most] w (yR w (.int .i64 (mayV l ps s tk pt want most m1 m2)))def FDoPost(w:World)(base G M gb:Nat)(ps:List Int)(ls:List Ln)(l:List Of)(N:Int)(vb:Value)(s tk pt n m1 m2:Int)(e:Ending)(w':World):Prop:=
 (¬doOk l ps s tk pt n m1 m2∧e=.returned (.tuple #[aHp,.int .i64 1])∧Below w.heap.size w w')∨
 (doOk l ps s tk pt n m1 m2∧∃o x ls' vb',aA4 l s=some o∧x=upN (n*o.nu) o.de∧aHq ps ls o tk pt n x ls'∧e=.returned (.tuple #[.agg #[.int .u64 s,.int .u8 tk,.int .u8 pt,.int .i64 n,.int .i64 x],.int .i64 0])∧
  LedM w' G M ps ls'∧PB w' base gb (aCx l s n) N vb'∧Keep (fun k=>k=G∨k=M∨Foot gb vb k) w w'∧aDf w vb vb')
def aEq:Prop:=∀{w:World} {base G M gb:Nat} {ps:List Int} {ls:List Ln} {l:List Of} {N:Int} {vb:Value},LedM w G M ps ls→LInv ps ls→PB w base gb l N vb→BInv l N→
 ∀(s tk pt n m1 m2:Int),(0≤s∧s≤18446744073709551615)→In8 tk→In8 pt→In64 n→(∀o,aA4 l s=some o→Goes ps ls o tk pt m1 m2)→
 Calls Tryz.prog 87 #[.agg #[.pointer (some ⟨G,0,none⟩),.pointer (some ⟨gb,0,none⟩)],.int .u64 s,.int .u8 tk,.int .u8 pt,.int .i64 n] w (FDoPost w base G M gb ps ls l N vb s tk pt n m1 m2)
def FCopyPost(w:World)(ps:List Int)(ls:List Ln)(l:List Of)(N:Int)(e:Ending)(w':World):Prop:=
 ∃G M gb vb,e=.returned (.agg #[.pointer (some ⟨G,0,none⟩),.pointer (some ⟨gb,0,none⟩)])∧LedM w' G M ps ls∧PB w' w.heap.size gb l N vb∧w.heap.size≤G∧w.heap.size≤M∧Below w.heap.size w w'
def aFf:Prop:=∀{w:World} {base G M gb:Nat} {ps:List Int} {ls:List Ln} {l:List Of} {N:Int} {vb:Value},LedM w G M ps ls→LInv ps ls→PB w base gb l N vb→BInv l N→
 Calls Tryz.prog 17 #[.agg #[.pointer (some ⟨G,0,none⟩),.pointer (some ⟨gb,0,none⟩)]] w (FCopyPost w ps ls l N)
theorem aOi{g nu de:Int}:0≤fitN g nu de:=by
 unfold fitN;split
 ·rename_i h;have:=aCe h.1;have:=Int.ediv_nonneg (Int.mul_nonneg h.2 (show 0≤de by omega)) (show 0≤nu by omega);omega
 omega
theorem fitN_mono{a b nu de:Int}(h0:0≤a)(h:a≤b):fitN a nu de≤fitN b nu de:=by
 unfold fitN
 by_cases hm:mayB nu de=true
 ·rw[if_pos ⟨hm,h0⟩,if_pos ⟨hm,by omega⟩];have hb:=aCe hm;have h1:a*de≤b*de:=Int.mul_le_mul_of_nonneg_right h (by omega);have:=Int.ediv_le_ediv (show 0<nu by omega) h1;omega
 rw[if_neg (fun q=>hm q.1),if_neg (fun q=>hm q.1)];omega
theorem may_do{l:List Of}{ps:List Int}{s tk pt want most m1 m2 n:Int}(h1:0≤m1)(h2:0≤m2)(hn:mayV l ps s tk pt want most m1 m2=n)(h:1≤n):
  doOk l ps s tk pt n m1 m2∧n≤want∧1≤most∧∃o,aA4 l s=some o∧n≤fitN (min (min most 1099511627776) m2) o.nu o.de:=by
 unfold mayV at hn
 cases hf:aA4 l s with
 | none=>rw[hf]at hn;simp at hn;omega
 | some o=>
  rw[hf]at hn;simp only[mayO]at hn
  by_cases hb:o.ow=tk∨o.ow∉ps∨tk∉ps∨pt∉ps∨want<1∨most<1
  ·rw[if_pos hb]at hn;omega
  rw[if_neg hb]at hn
  have hb2:¬(o.ow=tk∨o.ow∉ps∨tk∉ps∨pt∉ps∨n<1∨(1099511627776:Int)<1):=by
   intro q;rcases q with q|q|q|q|q|q
   ·exact hb (.inl q)
   ·exact hb (.inr (.inl q))
   ·exact hb (.inr (.inr (.inl q)))
   ·exact hb (.inr (.inr (.inr (.inl q))))
   ·omega
   omega
  have hmo:¬most<1:=fun q=>hb (.inr (.inr (.inr (.inr (.inr q)))))
  have hmn:=fitN_mono (nu:=o.nu) (de:=o.de) (a:=min (min most 1099511627776) m2) (b:=min (min 1099511627776 1099511627776) m2) (by omega) (by omega);have hle:n≤want∧n≤fitN (min (min most 1099511627776) m2) o.nu o.de:=by split at hn <;> omega
  refine⟨⟨h,?_⟩,hle.1,by omega,o,rfl,hle.2⟩;unfold mayV;rw[hf];simp only[mayO];rw[if_neg hb2];split at hn
  ·rename_i hp;rw[if_pos hp];omega
  rename_i hp;rw[if_neg hp];omega
theorem mayV_nn{l:List Of}{ps:List Int}{N s tk pt want most m1 m2:Int}(hJ:BInv l N)(h1:0≤m1):0≤mayV l ps s tk pt want most m1 m2∧mayV l ps s tk pt want most m1 m2≤max want 0:=by
 unfold mayV
 cases hf:aA4 l s with
 | none=>simp only[];omega
 | some o=>
  obtain⟨_,_,_,_,⟨l1,l2⟩,_⟩:=hJ.may o (aBq hf).1;simp only[mayO];have:=aOi (g:=min (min most 1099511627776) m2) (nu:=o.nu) (de:=o.de);split
  ·omega
  split <;> omega
theorem take_facts{l:List Of}{N:Int}(h:BInv l N){s n:Int}{o:Of}(hf:aA4 l s=some o)(h1:1≤n)(h2:n≤o.lf):
  aCx l s n=setO l s (o.lf - n):=by
 unfold aCx aEz aOd;rw[hf];simp only[];rw[if_pos (show(if n<1∨o.lf<n then(1:Int)else 0)=0 from if_neg (by omega))]
theorem pay_goes{ps:List Int}{ls:List Ln}(hI:LInv ps ls){a b c n m:Int}{σ μ:RS}(ha:a∈ps)(hb:b∈ps)(hab:a≠b)(hc:1≤c∧c≤8)(h1:1≤n)(h2:n≤1099511627776)
  (hσ:aAc (aBr ps ls c) 4398046511104 a b n σ)(hμ:aAc (aBr ps ls c) 4398046511104 a b aBd μ)(hm:aBd - μ.left=m)(hnm:n≤m):
  payE ps a b c n σ=0∧payL ps ls a b c n σ=aB4 ps c ls σ.out∧n - σ.left=n:=by
 have pa:=hI.bd a ha;have pb:=hI.bd b hb;have MIN:=aL2 hσ hμ (aAq hI c) pa pb hab h1;rw[hm]at MIN;have hg:n - σ.left=n:=by rw[MIN];omega
 have PE:payE ps a b c n σ=0:=by
  unfold payE;rcases aN1 (fun p=>decide (p∈ps)) a b c n (n - σ.left)with⟨_,q⟩|⟨_,_,q⟩|⟨_,_,_,_,q⟩|⟨q,_⟩
  ·exact absurd ⟨pa,pb,hab,hc.1,hc.2,h1,h2⟩ q
  ·rcases q with q|q
   ·exact absurd ha (by simpa using q)
   exact absurd hb (by simpa using q)
  ·omega
  exact q
 exact⟨PE,by unfold payL;rw[if_pos PE],hg⟩
theorem pay_pos{ps:List Int}{ls:List Ln}(hI:LInv ps ls){a b c n:Int}{σ:RS}(hσ:aAc (aBr ps ls c) 4398046511104 a b n σ)(hg:n - σ.left=n)(p d:Int):
  posL (aB4 ps c ls σ.out) p d=posL ls p d+(if d=c then(if b=p then n else 0) - (if a=p then n else 0)else 0):=by
 rw[aI6 p σ.out hI hσ.good.1 d,hσ.net p,hg]
def aMq(o:Of)(tk pt n x p c:Int):Int:=
 (((if c=o.sl∧p=o.ow then -n else 0)+(if c=o.sl∧p=pt then n else 0))+(if c=o.bu∧p=tk then -x else 0))+(if c=o.bu∧p=o.ow then x else 0)
theorem aMr{ps:List Int}{ls ls':List Ln}(hI:LInv ps ls){l:List Of}{N:Int}(hJ:BInv l N){s tk pt n m1 m2 x:Int}{o:Of}(hf:aA4 l s=some o)(hG:Goes ps ls o tk pt m1 m2)(hd:doOk l ps s tk pt n m1 m2)(hx:x=upN (n*o.nu) o.de)(hF:aHq ps ls o tk pt n x ls'):
  limL ls=limL ls'∧(∀p c,posL ls' p c=posL ls p c+aMq o tk pt n x p c)∧1≤x∧x≤1099511627776∧x≤m2:=by
 obtain⟨o',hf',⟨k1,k2,k3,k4⟩,k5,k6,k7⟩:=hd.facts;rw[hf]at hf'
 cases hf'
 have hB:=hG.bd hI;obtain⟨⟨μ,hμ,em⟩,ν,hν,en⟩:=hG;obtain⟨_,⟨s1,s2⟩,⟨b1,b2⟩,hsb,⟨l1,l2⟩,hm⟩:=hJ.may o (aBq hf).1;have hn1:=hd.1;have hb:=aCe hm;obtain⟨u1,u2,u3⟩:=aOf hm (g:=min 1099511627776 m2) (by omega) (by omega) (by omega) k7;rw[←hx]at u2 u3
 have hx1:1≤x:=by
  have hp:1≤n*o.nu:=by have:=Int.mul_le_mul hn1 hb.1 (by omega) (by omega);omega
  rw[hx];unfold upN;have h0:0≤n*o.nu/o.de:=Int.ediv_nonneg (by omega) (by omega);split
  ·rename_i h;have hd2:=Int.mul_ediv_add_emod (n*o.nu) o.de;rw[h]at hd2;rcases Int.lt_or_le (n*o.nu/o.de) 1 with k|k
   ·have:n*o.nu/o.de=0:=by omega
    rw[this]at hd2;omega
   exact k
  omega
 obtain⟨ls1,τ,hA,hτ,rfl⟩:=hF
 have hroom:LInv ps ls1∧aBr ps ls1 o.bu=aBr ps ls o.bu∧limL ls=limL ls1∧∀p c,posL ls1 p c=posL ls p c+((if c=o.sl∧p=o.ow then -n else 0)+(if c=o.sl∧p=pt then n else 0)):=by
  rcases hA with⟨hp,rfl⟩|⟨hp,σ,hσ,rfl⟩
  ·refine⟨hI,rfl,rfl,fun p c=>?_⟩;subst hp
   by_cases h:c=o.sl∧p=o.ow
   ·rw[if_pos h,if_pos h];omega
   rw[if_neg h,if_neg h];omega
  have hn:n≤m1:=by rcases k6 with h|h;exact absurd h hp;exact h
  obtain⟨e1,e2,e3⟩:=pay_goes hI k2 k4 (fun e=>hp e.symm) ⟨s1,s2⟩ hn1 (by omega) hσ hμ em hn;rw[e2];refine⟨aEn _ hI,aHl hsb _ hI,(aE9 _ hI).symm,fun p c=>?_⟩;rw[pay_pos hI hσ e3];clear hμ hν hσ hτ hm hx hb u1
  repeat' split
  all_goals omega
 obtain⟨hI1,hr,hl,hpos⟩:=hroom;rw[hr]at hτ;rw[←hr]at hν hτ;obtain⟨e1,e2,e3⟩:=pay_goes hI1 k3 k2 (fun e=>k1 e.symm) ⟨b1,b2⟩ hx1 (by omega) hτ hν en (by omega);rw[e2];refine⟨hl.trans (aE9 _ hI1).symm,fun p c=>?_,hx1,by omega,by omega⟩;rw[pay_pos hI1 hτ e3,hpos];unfold aMq;generalize (if c=o.sl∧p=o.ow then -n else 0)+(if c=o.sl∧p=pt then n else 0)=S;clear hμ hν hτ hm hx hb u1 hpos
 repeat' split
 all_goals omega
theorem aGs{ps:List Int}{ls:List Ln}(hI:LInv ps ls)(l:List Of)(s tk pt:Int):∃m1 m2,(∀o,aA4 l s=some o→Goes ps ls o tk pt m1 m2)∧0≤m1∧0≤m2:=by
 cases hf:aA4 l s with
 | none=>exact⟨0,0,(fun o h=>by cases h),by omega,by omega⟩
 | some o=>
  obtain⟨m1,m2,g⟩:=goes_ends hI o tk pt;have:=g.bd hI;exact⟨m1,m2,(fun o' h=>by cases h;exact g),by omega,by omega⟩
def aBo(x y:Of):Bool:=decide (cmpR y.nu y.de x.nu x.de≤0)
def insO(out:List Of)(x:Of):List Of:=out.takeWhile (aBo x)++x::out.dropWhile (aBo x)
def aEr(s b:Int)(out:List Of)(x:Of):List Of:=if x.sl=s∧x.bu=b then insO out x else out
def aC6(l:List Of)(s b:Int):List Of:=l.foldl (aEr s b) []
def ltO(x y:Of):Prop:=x.nu*y.de<y.nu*x.de∨(x.nu*y.de=y.nu*x.de∧x.se<y.se)
def ordO(x y:Of):Int:=orI (cmpR x.nu x.de y.nu y.de) (cmpI x.se y.se)
theorem aIb{an ad bn bd:Int}(h1:mayB an ad=true)(h2:mayB bn bd=true):cmpR an ad bn bd=cmpI (an*bd) (bn*ad):=by unfold cmpR;rw[if_pos ⟨h1,h2⟩]
theorem ordO_lt{x y:Of}(hx:x.may)(hy:y.may):ordO x y<0↔ltO x y:=by
 unfold ordO;rw[aIb hx.2.2.2.2.2 hy.2.2.2.2.2];unfold ltO orI cmpI;generalize x.nu*y.de=p;generalize y.nu*x.de=q
 (repeat' split) <;> omega
theorem sgn3{a1 d1 a2 d2 a3 d3:Int}(h1:1≤d1)(h2:1≤d2)(h3:1≤d3):d2*(a1*d3 - a3*d1)=d3*(a1*d2 - a2*d1)+d1*(a2*d3 - a3*d2):=by
 simp only[Int.mul_sub];have e1:d2*(a1*d3)=d3*(a1*d2):=by rw[←Int.mul_assoc,Int.mul_comm d2 a1,Int.mul_comm d3,Int.mul_assoc]
 have e2:d2*(a3*d1)=d1*(a3*d2):=by rw[←Int.mul_assoc,Int.mul_comm d2 a3,Int.mul_comm d1,Int.mul_assoc]
 have e3:d3*(a2*d1)=d1*(a2*d3):=by rw[←Int.mul_assoc,Int.mul_comm d3 a2,Int.mul_comm d1,Int.mul_assoc]
 omega
theorem aMs{d1 d2 d3 u v t:Int}(h1:1≤d1)(h2:1≤d2)(h3:1≤d3)(h:d2*t=d3*u+d1*v):(u<0→v≤0→t<0)∧(u≤0→v<0→t<0)∧(u=0→v=0→t=0)∧(0<u→0≤v→0<t)∧(0≤u→0<v→0<t):=by
 refine⟨fun a b=>?_,fun a b=>?_,fun a b=>?_,fun a b=>?_,fun a b=>?_⟩
 ·have p:=Int.mul_neg_of_pos_of_neg (show 0<d3 by omega) a;have q:=Int.mul_nonpos_of_nonneg_of_nonpos (show 0≤d1 by omega) b
  by_cases c:0≤t
  ·have:=Int.mul_nonneg (show 0≤d2 by omega) c;omega
  omega
 ·have p:=Int.mul_neg_of_pos_of_neg (show 0<d1 by omega) b;have q:=Int.mul_nonpos_of_nonneg_of_nonpos (show 0≤d3 by omega) a
  by_cases c:0≤t
  ·have:=Int.mul_nonneg (show 0≤d2 by omega) c;omega
  omega
 ·subst a b;rw[Int.mul_zero,Int.mul_zero,Int.add_zero]at h;rcases Int.mul_eq_zero.1 h with e|e <;> omega
 ·have p:=Int.mul_pos (show 0<d3 by omega) a;have q:=Int.mul_nonneg (show 0≤d1 by omega) b
  by_cases c:t≤0
  ·have:=Int.mul_nonpos_of_nonneg_of_nonpos (show 0≤d2 by omega) c;omega
  omega
 have p:=Int.mul_pos (show 0<d1 by omega) b;have q:=Int.mul_nonneg (show 0≤d3 by omega) a
 by_cases c:t≤0
 ·have:=Int.mul_nonpos_of_nonneg_of_nonpos (show 0≤d2 by omega) c;omega
 omega
theorem Of.may.de{x:Of}(h:x.may):1≤x.de:=(aCe h.2.2.2.2.2).2.1
theorem aMt{x y z:Of}(hx:x.may)(hy:y.may)(hz:z.may)(h1:ltO x y)(h2:ltO y z):ltO x z:=by
 have k:=aMs hx.de hy.de hz.de (sgn3 (a1:=x.nu) (a2:=y.nu) (a3:=z.nu) hx.de hy.de hz.de);unfold ltO at *;generalize x.nu*y.de=a at *;generalize y.nu*x.de=b at *;generalize y.nu*z.de=c at *;generalize z.nu*y.de=d at *;generalize x.nu*z.de=e at *;generalize z.nu*x.de=f at *;obtain⟨k1,k2,k3,k4,k5⟩:=k;rcases h1 with h1|⟨h1,s1⟩
 ·have:=k1 (by omega) (by omega);omega
 rcases h2 with h2|⟨h2,s2⟩
 ·have:=k2 (by omega) (by omega);omega
 have:=k3 (by omega) (by omega);omega
theorem ltO_ntrans{x y z:Of}(hx:x.may)(hy:y.may)(hz:z.may)(h1:¬ltO x y)(h2:¬ltO y z):¬ltO x z:=by
 have k:=aMs hx.de hy.de hz.de (sgn3 (a1:=x.nu) (a2:=y.nu) (a3:=z.nu) hx.de hy.de hz.de);unfold ltO at *;generalize x.nu*y.de=a at *;generalize y.nu*x.de=b at *;generalize y.nu*z.de=c at *;generalize z.nu*y.de=d at *;generalize x.nu*z.de=e at *;generalize z.nu*x.de=f at *;obtain⟨k1,k2,k3,k4,k5⟩:=k
 by_cases u:b<a
 ·have:=k4 (by omega) (by omega);omega
 have ue:a=b:=by omega
 by_cases v:d<c
 ·have:=k5 (by omega) (by omega);omega
 have:=k3 (by omega) (by omega);omega
theorem ltO_irrefl(x:Of):¬ltO x x:=by unfold ltO;omega
theorem ltO_total{x y:Of}(h:x.se≠y.se)(h1:¬ltO x y):ltO y x:=by
 unfold ltO at *;generalize x.nu*y.de=a at *;generalize y.nu*x.de=b at *;omega
theorem ltO_asymm{x y:Of}(h1:ltO x y)(h2:ltO y x):False:=by
 unfold ltO at *;generalize x.nu*y.de=a at *;generalize y.nu*x.de=b at *;omega
theorem noWorse_lt{x y:Of}(hx:x.may)(hy:y.may)(hs:y.se<x.se)(h:aBo x y=true):ltO y x:=by
 unfold aBo at h;rw[aIb hy.2.2.2.2.2 hx.2.2.2.2.2]at h;unfold ltO;generalize x.nu*y.de=a at *;generalize y.nu*x.de=b at *;unfold cmpI at h;split at h
 ·omega
 split at h
 ·simp at h
 omega
theorem worse_lt{x y:Of}(hx:x.may)(hy:y.may)(h:aBo x y=false):ltO x y:=by
 unfold aBo at h;rw[aIb hy.2.2.2.2.2 hx.2.2.2.2.2]at h;unfold ltO;generalize x.nu*y.de=a at *;generalize y.nu*x.de=b at *;unfold cmpI at h;split at h
 ·simp at h
 split at h
 ·omega
 simp at h
theorem insO_perm(out:List Of)(x:Of):(insO out x).Perm (out++[x]):=by
 unfold insO;have h1:(out.takeWhile (aBo x)++x::out.dropWhile (aBo x)).Perm (x::(out.takeWhile (aBo x)++out.dropWhile (aBo x))):=List.perm_middle;rw[List.takeWhile_append_dropWhile]at h1;exact h1.trans (List.perm_append_singleton x out).symm
theorem aEs{p:Of→Bool}:∀{l:List Of} {y:Of},y∈l.takeWhile p→p y=true
 | x::r,y,h=>by
  rw[List.takeWhile_cons]at h;split at h
  ·rcases List.mem_cons.1 h with rfl|h
   ·assumption
   exact aEs h
  simp at h
theorem aOj{out:List Of}{x:Of}(hm:∀y∈out,y.may)(hx:x.may)(hs:∀y∈out,y.se<x.se)(ho:out.Pairwise ltO):(insO out x).Pairwise ltO:=by
 unfold insO;have hsplit:out.takeWhile (aBo x)++out.dropWhile (aBo x)=out:=List.takeWhile_append_dropWhile;have h1:∀y∈out.takeWhile (aBo x),y∈out∧aBo x y=true:=fun y hy=>⟨by rw[←hsplit];exact List.mem_append_left _ hy,aEs hy⟩
 have h2:∀y∈out.dropWhile (aBo x),y∈out:=fun y hy=>by rw[←hsplit];exact List.mem_append_right _ hy
 rw[←hsplit,List.pairwise_append]at ho;obtain⟨o1,o2,o3⟩:=ho
 have h3:∀y∈out.dropWhile (aBo x),ltO x y:=by
  cases hd:out.dropWhile (aBo x)with
  | nil=>simp
  | cons z r=>
   rw[hd]at o2 h2
   have hz:aBo x z=false:=by
    have:=List.head_dropWhile_not (aBo x) (l:=out) (by rw[hd];simp);simpa [hd]using this
   have hz2:=worse_lt hx (hm z (h2 z (by simp))) hz;intro y hy;rcases List.mem_cons.1 hy with rfl|hy
   ·exact hz2
   exact aMt hx (hm z (h2 z (by simp))) (hm y (h2 y (by simp[hy]))) hz2 ((List.pairwise_cons.1 o2).1 y hy)
 rw[List.pairwise_append];refine⟨o1,List.pairwise_cons.2 ⟨h3,o2⟩,fun y hy z hz=>?_⟩;obtain⟨hyo,hyn⟩:=h1 y hy;have hyx:=noWorse_lt hx (hm y hyo) (hs y hyo) hyn;rcases List.mem_cons.1 hz with rfl|hz
 ·exact hyx
 exact o3 y hy z hz
def aAx(s b:Int)(x:Of):Bool:=decide (x.sl=s∧x.bu=b)
theorem aHa{s b:Int}:∀(l out:List Of),(∀x∈l,x.may)→(∀x∈out,x.may)→l.Pairwise (fun x y=>x.se<y.se)→(∀y∈out,∀x∈l,y.se<x.se)→out.Pairwise ltO→
  (l.foldl (aEr s b) out).Perm (out++l.filter (aAx s b))∧(l.foldl (aEr s b) out).Pairwise ltO
 | [],out,_,_,_,_,ho=>by simpa using ho
 | x::r,out,h1,h2,h3,h4,ho=>by
  obtain⟨h3a,h3b⟩:=List.pairwise_cons.1 h3;rw[List.foldl_cons]
  by_cases hp:x.sl=s∧x.bu=b
  ·have e:aEr s b out x=insO out x:=by unfold aEr;rw[if_pos hp]
   have hi:=insO_perm out x
   have hmem:∀y∈insO out x,y∈out∨y=x:=fun y hy=>by
    have:=hi.mem_iff.1 hy;simpa using this
   rw[e]
   obtain⟨p,q⟩:=aHa r (insO out x) (fun y hy=>h1 y (by simp[hy])) (fun y hy=>by rcases hmem y hy with h|rfl;exact h2 y h;exact h1 y (by simp)) h3b
    (fun y hy z hz=>by rcases hmem y hy with h|rfl;exact h4 y h z (by simp[hz]);exact h3a z hz) (aOj h2 (h1 x (by simp)) (fun y hy=>h4 y hy x (by simp)) ho)
   refine⟨p.trans ?_,q⟩;rw[List.filter_cons,if_pos (by unfold aAx;simpa using hp)];exact(hi.append_right _).trans (by simp)
  have e:aEr s b out x=out:=by unfold aEr;rw[if_neg hp]
  rw[e];obtain⟨p,q⟩:=aHa r out (fun y hy=>h1 y (by simp[hy])) h2 h3b (fun y hy z hz=>h4 y hy z (by simp[hz])) ho;refine⟨?_,q⟩;rw[List.filter_cons,if_neg (by unfold aAx;simpa using hp)];exact p
theorem aLc{l:List Of}(h1:∀x∈l,x.may)(h3:l.Pairwise (fun x y=>x.se<y.se))(s b:Int):(aC6 l s b).Perm (l.filter (aAx s b))∧(aC6 l s b).Pairwise ltO:=by
 have:=aHa (s:=s) (b:=b) l [] h1 (by simp) h3 (by simp) List.Pairwise.nil;simpa [aC6]using this
end Go.Proofs.YtaeocliklpcgmaaGreat
