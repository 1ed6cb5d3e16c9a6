/- Pieces of one proof. -/
import Derived.Test.YtojbmnbphdcjfaaGreatP05
import Derived.Deep.MidRow
import Derived.Deep.WholeRow
set_option linter.all false
set_option maxHeartbeats 64000000
set_option maxRecDepth 100000
namespace Go.Proofs.YtojbmnbphdcjfaaGreat
open Go.RowKit
def aNp(v:Int→Int→Value):Array Value:=Array.ofFn (n:=289) fun i=>v ((i.val/17:Nat):Int) ((i.val%17:Nat):Int)
theorem aG5(v:Int→Int→Value):(aNp v).size=289:=by simp[aNp]
theorem aIg(v:Int→Int→Value){i:Nat}(h:i<289):(aNp v)[i]? = some (v ((i/17:Nat):Int) ((i%17:Nat):Int)):=by simp[aNp,h]
theorem gridA_at(v:Int→Int→Value){p q:Nat}(hp:p<17)(hq:q<17):(aNp v)[p*17+q]? = some (v p q):=by
 rw[aIg _ (by omega),show(p*17+q)/17=p by omega,show(p*17+q)%17=q by omega]
theorem gridA_set(v:Int→Int→Value){p q:Nat}(hp:p<17)(hq:q<17)(u:Value):(aNp v).setIfInBounds (p*17+q) u=aNp fun a b=>if a=p∧b=q then u else v a b:=by
 apply Array.ext_getElem?;intro j
 by_cases hj:j<289
 ·rw[aIg _ hj]
  by_cases hi:p*17+q=j
  ·subst hi;rw[Array.getElem?_setIfInBounds_self_of_lt (by rw[aG5];omega),show(p*17+q)/17=p by omega,show(p*17+q)%17=q by omega,if_pos ⟨rfl,rfl⟩]
  rw[Array.getElem?_setIfInBounds_ne hi,aIg _ hj,if_neg];rintro⟨e1,e2⟩;omega
 rw[Array.getElem?_eq_none (by simp[aG5];omega),Array.getElem?_eq_none (by rw[aG5];omega)]
def rowA(v:Int→Int→Value)(p:Int):Array Value:=Array.ofFn (n:=17) fun i=>v p ((i.val:Nat):Int)
theorem aEv(v:Int→Int→Value)(p:Int):(rowA v p).size=17:=by simp[rowA]
theorem aG6(v:Int→Int→Value)(p:Int){i:Nat}(h:i<17):(rowA v p)[i]? = some (v p i):=by simp[rowA,h]
def graC(f:Int→Int→Int)(b:Bool):Array Value:=Array.ofFn (n:=290) fun i=>if i.val=289 then .bool b else .int .i64 (f ((i.val/17:Nat):Int) ((i.val%17:Nat):Int))
theorem aKx(f:Int→Int→Int)(b:Bool):(graC f b).size=290:=by simp[graC]
theorem aKy(f:Int→Int→Int)(b:Bool):(graC f b)[289]? = some (.bool b):=by simp[graC]
theorem aKb(f:Int→Int→Int)(b:Bool){i:Nat}(h:i<289):(graC f b)[i]? = some (.int .i64 (f ((i/17:Nat):Int) ((i%17:Nat):Int))):=by
 have h1:i<290:=by omega
 have h2:i≠289:=by omega
 simp[graC,h1,h2]
theorem graC_at(f:Int→Int→Int)(b:Bool){p q:Nat}(hp:p<17)(hq:q<17):(graC f b)[p*17+q]? = some (.int .i64 (f p q)):=by
 rw[aKb _ _ (by omega),show(p*17+q)/17=p by omega,show(p*17+q)%17=q by omega]
theorem graC_set(f:Int→Int→Int)(b:Bool){p q:Nat}(hp:p<17)(hq:q<17)(n:Int):(graC f b).setIfInBounds (p*17+q) (.int .i64 n)=graC (updE f p q n) b:=by
 apply Array.ext_getElem?;intro j
 by_cases hj:j<289
 ·rw[aKb _ _ hj];unfold updE
  by_cases hi:p*17+q=j
  ·subst hi;rw[Array.getElem?_setIfInBounds_self_of_lt (by rw[aKx];omega),show(p*17+q)/17=p by omega,show(p*17+q)%17=q by omega,if_pos ⟨rfl,rfl⟩]
  rw[Array.getElem?_setIfInBounds_ne hi,aKb _ _ hj,if_neg];rintro⟨e1,e2⟩;omega
 by_cases h2:j=289
 ·subst h2;rw[Array.getElem?_setIfInBounds_ne (by omega),aKy,aKy]
 rw[Array.getElem?_eq_none (by simp[aKx];omega),Array.getElem?_eq_none (by rw[aKx];omega)]
theorem aI2{f g:Int→Int→Int}(b:Bool)(h:∀p q:Nat,p<17→q<17→f p q=g p q):graC f b=graC g b:=by
 unfold graC;congr 1
 funext i
 by_cases hi:i.val=289
 ·simp[hi]
 rw[if_neg hi,if_neg hi,h _ _ (by omega) (by omega)]
def capA(f:Int→Int→Int):Array Value:=aNp fun p q=>.int .i64 (f p q)
theorem aO8(f:Int→Int→Int):(capA f).size=289:=aG5 _
theorem capA_get(f:Int→Int→Int){i:Nat}(h:i<289):(capA f)[i]? = some (.int .i64 (f ((i/17:Nat):Int) ((i%17:Nat):Int))):=aIg _ h
theorem cap_range{w:World}{g:Nat}{f:Int→Int→Int}{b:Bool}{t:TypeId}(h:Blk w g (graC f b) t):w.rangeAt g 0 (capA f).toList:=by
 intro j v hv
 have hj:j<289:=by
  rcases Nat.lt_or_ge j 289 with h|h
  ·exact h
  rw[List.getElem?_eq_none (by simp[aO8];omega)]at hv;cases hv
 rw[Nat.zero_add,h.cell j,aKb _ _ hj];rw[Array.getElem?_toList,capA_get _ hj]at hv;exact hv
theorem Blk.cap{w:World}{g:Nat}{f:Int→Int→Int}{b:Bool}{t:TypeId}(h:Blk w g (graC f b) t){p q:Int}(h0:0≤p)(h1:p<17)(h2:0≤q)(h3:q<17):w.cell? ⟨g,p.toNat*17+q.toNat,none⟩=some (.int .i64 (f p q)):=by
 rw[h.cell,graC_at f b (by omega) (by omega),Int.toNat_of_nonneg h0,Int.toNat_of_nonneg h2]
theorem Blk.capSet{w:World}{g:Nat}{f:Int→Int→Int}{b:Bool}{t:TypeId}(h:Blk w g (graC f b) t){p q:Int}(h0:0≤p)(h1:p<17)(h2:0≤q)(h3:q<17)(n:Int):
  Blk (w.setCell ⟨g,p.toNat*17+q.toNat,none⟩ (.int .i64 n)) g (graC (updE f p q n) b) t:=by
 have:=h.set (p.toNat*17+q.toNat) (.int .i64 n);rw[graC_set f b (by omega) (by omega),Int.toNat_of_nonneg h0,Int.toNat_of_nonneg h2]at this;exact this
theorem Blk.madeG{w:World}{g:Nat}{f:Int→Int→Int}{b:Bool}{t:TypeId}(h:Blk w g (graC f b) t):w.cell? ⟨g,289,none⟩=some (.bool b):=by rw[h.cell,aKy]
theorem build_gra0(w:World):(Instr.build 271 #[(1,.bool true)]).run Tryz.prog w=.ok (.agg (graC aHg true)) w:=by
 have h:(Instr.build 271 #[(1,.bool true)]).run Tryz.prog=fun w=>.ok (.agg (graC aHg true)) w:=by kernel_rfl
 rw[h]
theorem build_gra(f:Int→Int→Int)(w:World):(Instr.build 271 #[(0,.agg (capA f)),(1,.bool true)]).run Tryz.prog w=.ok (.agg (graC f true)) w:=by
 have h:(Instr.build 271 #[(0,.agg (capA f)),(1,.bool true)]).run Tryz.prog=fun w=>.ok (.agg (graC f true)) w:=by kernel_rfl
 rw[h]
theorem zero_caps:(∀w,(zeroValue 269).run Tryz.prog w=.ok (.agg (capA aHg)) w)∧(Tryz.prog.info? 269).map (·.size)=some 289:=
 zero_of_info (by kernel_rfl)
theorem info_caps(f:Int→Int→Int):(Tryz.prog.info? 269).map (·.size)=some (capA f).size:=by rw[aO8];exact zero_caps.2
theorem aQ7(f:Int→Int→Int):(Tryz.prog.info? 269).map (·.size)=some (capA f).toList.length:=by rw[Array.length_toList];exact info_caps f
attribute [irreducible] graC capA rowA aNp
def mayG(p:Int):Bool:=decide (1≤p∧p≤16)
theorem aBn{p:Int}(h:inP p):mayG p=true:=by unfold mayG;unfold inP at h;simp;omega
theorem aEo{p:Int}(h:¬inP p):mayG p=false:=by unfold mayG;unfold inP at h;simp;omega
theorem gmay_any(p:Int)(w:World):Calls Tryz.prog 238 #[.int .u8 p] w (yS w (.bool (mayG p))):=by
 have hs:(¬1≤p∧mayG p=false)∨(1≤p∧p≤16∧mayG p=true)∨(1≤p∧¬p≤16∧mayG p=false):=by unfold mayG;simp;omega
 rcases hs with⟨h1,h2⟩|⟨h1,h3,h2⟩|⟨h1,h3,h2⟩
 all_goals
  rw[h2];clear h2;go_enter Tryz.func238,Tryz.ntmps238;go_wp2;go_ret;exact⟨rfl,rfl⟩
def outF(f:Int→Int→Int):Prop:=∀p q,¬(inP p∧inP q)→f p q=0
theorem GInv.outF{f:Int→Int→Int}{B:Int}(h:GInv f B):outF f:=h.out
theorem gcap_any{w:World}{g:Nat}{f:Int→Int→Int}{b:Bool}(h:Blk w g (graC f b) 271)(ho:outF f)(p q:Int):
  Calls Tryz.prog 226 #[.pointer (some ⟨g,0,none⟩),.int .u8 p,.int .u8 q] w (yS w (.int .i64 (f p q))):=by
 have C1:=yH (gmay_any p w);have C2:=yH (gmay_any q w);have hlt:=h.lt
 by_cases hp:inP p
 ·by_cases hq:inP q
  ·rw[aBn hp]at C1;rw[aBn hq]at C2;obtain⟨p1,p2⟩:=hp;obtain⟨q1,q2⟩:=hq;have d:=h.cap (p:=p) (q:=q) (by omega) (by omega) (by omega) (by omega);have p3:0≤p:=by omega
   have p4:p<17:=by omega
   have q3:0≤q:=by omega
   have q4:q<17:=by omega
   clear h ho;generalize f p q=n at *;go_enter Tryz.func226,Tryz.ntmps226;go_wp2_with fail;refine C1.out.mono ?_;rintro e w ⟨rfl,rfl⟩;go_wp2_with fail;refine C2.out.mono ?_;rintro e w ⟨rfl,rfl⟩;go_wp2_with fail;go_ret;exact⟨rfl,rfl⟩
  rw[aBn hp]at C1;rw[aEo hq]at C2;rw[ho p q (fun e=>hq e.2)];clear h ho hp hq;go_enter Tryz.func226,Tryz.ntmps226;go_wp2_with fail;refine C1.out.mono ?_;rintro e w ⟨rfl,rfl⟩;go_wp2_with fail;refine C2.out.mono ?_;rintro e w ⟨rfl,rfl⟩;go_wp2_with fail;go_ret;exact⟨rfl,rfl⟩
 rw[aEo hp]at C1;rw[ho p q (fun e=>hp e.1)];clear h ho hp;go_enter Tryz.func226,Tryz.ntmps226;go_wp2_with fail;refine C1.out.mono ?_;rintro e w ⟨rfl,rfl⟩;go_wp2_with fail;go_ret;exact⟨rfl,rfl⟩
theorem gcap_nil(p q:Int)(w:World):Calls Tryz.prog 226 #[.pointer none,.int .u8 p,.int .u8 q] w (yS w (.int .i64 0)):=by
 go_enter Tryz.func226,Tryz.ntmps226;go_wp2;go_ret;exact⟨rfl,rfl⟩
def aIh(f:Int→Int→Int)(a b n:Int):Int:=if n<1 then 1 else if f a b<n then 11 else 0
def aF6(f:Int→Int→Int)(a b n:Int):Int→Int→Int:=if 1≤n∧n≤f a b then aCg f a b n else f
theorem gpush_any{w:World}{g:Nat}{f:Int→Int→Int}{B:Int}(h:Blk w g (graC f true) 271)(hI:GInv f B)(hB:B≤4611686018427387903){a b n:Int}(hn:In64 n):
  Calls Tryz.prog 209 #[.pointer (some ⟨g,0,none⟩),.int .u8 a,.int .u8 b,.int .i64 n] w fun e w'=>e=.returned (.int .i64 (aIh f a b n))∧Blk w' g (graC (aF6 f a b n) true) 271∧Keep (·=g) w w':=by
 have KB:=yH h;have dm:=h.madeG;have hlt:=h.lt;have C:=yH (gcap_any h hI.outF a b);obtain⟨n0,n1⟩:=hn
 by_cases h1:n<1
 ·have EE:=yH (show aIh f a b n=1∧aF6 f a b n=f from⟨by unfold aIh;rw[if_pos h1],by unfold aF6;rw[if_neg (by omega)]⟩);clear h hI C;go_enter Tryz.func209,Tryz.ntmps209;go_wp2;go_ret;exact⟨by rw[EE.out.1];rfl,by rw[EE.out.2];exact KB.out,Keep.refl _ _⟩
 by_cases h2:f a b<n
 ·have EE:=yH (show aIh f a b n=11∧aF6 f a b n=f from⟨by unfold aIh;rw[if_neg h1,if_pos h2],by unfold aF6;rw[if_neg (by omega)]⟩);clear h hI;obtain⟨x,hx⟩:∃x,f a b=x:=⟨_,rfl⟩;rw[hx]at C h2;clear hx;go_enter Tryz.func209,Tryz.ntmps209;go_wp2_with fail;refine C.out.mono ?_;rintro e w ⟨rfl,rfl⟩;go_wp2_with fail;go_ret;exact⟨by rw[EE.out.1];rfl,by rw[EE.out.2];exact KB.out,Keep.refl _ _⟩
 obtain⟨⟨a1,a2⟩,⟨b1,b2⟩,hab⟩:=hI.ends (p:=a) (q:=b) (by omega);have hbd:=hI.pair a b;have hnn:=hI.nn b a;have EE:=yH (show aIh f a b n=0∧aF6 f a b n=updE (updE f a b (f a b - n)) b a (f b a+n)from⟨by unfold aIh;rw[if_neg h1,if_neg h2],by unfold aF6;rw[if_pos (by omega)];rfl⟩);obtain⟨x,hx⟩:∃x,f a b=x:=⟨_,rfl⟩;obtain⟨y,hy⟩:∃y,f b a=y:=⟨_,rfl⟩;have hy2:updE f a b (x - n) b a=y:=by unfold updE;rw[if_neg (fun e=>hab e.1.symm),hy]
 rw[hx,hy]at EE;rw[hx]at C h2 hbd;rw[hy]at hbd hnn;have HX:=yH hx;have HY2:=yH hy2;have HAB:=yH hab;clear h hI hx hy hy2 hab;go_enter Tryz.func209,Tryz.ntmps209;go_wp2_with fail;refine C.out.mono ?_;rintro e w ⟨rfl,rfl⟩;go_wp2_with fail
 refine aCl (by kernel_rfl) 14 16 [(.pointer (some ⟨g,0,none⟩)),(.int .u8 a),(.int .u8 b),(.pointer (some ⟨g,0,none⟩)),(.pointer (some ⟨g,0,none⟩)),(.pointer (some ⟨g,a.toNat*17,none⟩)),(.pointer (some ⟨g,a.toNat*17+b.toNat,none⟩)),(.int .i64 x),(.int .i64 n),(.int .i64 (x - n)),(.pointer (some ⟨g,0,none⟩)),(.pointer (some ⟨g,0,none⟩)),(.pointer (some ⟨g,a.toNat*17,none⟩)),(.pointer (some ⟨g,a.toNat*17+b.toNat,none⟩))]
  (fun w'=>Below w.heap.size w w') (by kernel_rfl) rfl (by kernel_rfl) yZ.drew ?_
 intro af haf;simp only[yG,List.append_eq,List.cons_append,List.nil_append,puts,Act.put,yA,yC,yF,yD,yE]at haf;subst haf;refine⟨?_,?_⟩
 ·simp only[yG,List.take_succ_cons,List.take_zero,aA8];refine⟨?z1,?z2,?z3,?z6,?z7,?z8,?z9,?_,?z4,?z5,?z10,?z11,?z12,?z13,trivial⟩
  case z1|z2|z3|z4|z5=>
   intro w' hS;refine yO rfl ?_;have HS:=yH hS;clear hS;go_wp2_with fail;all_goals first|exact HS|exact⟨rfl,HS⟩|rfl|exact⟨by omega,HS.out⟩
  case z6|z7|z8|z9|z10|z11|z12|z13=>
   intro w' hS;refine yO rfl ?_;have kb:=KB.out.below hS KB.out.lt;have hl:=kb.lt;have HS:=yH hS;clear hS;go_wp2_with fail;all_goals first|exact HS|exact⟨rfl,HS⟩|rfl|exact⟨by omega,HS.out⟩
  intro w' hS;refine yO rfl ?_;have kb:=KB.out.below hS KB.out.lt;have hl:=kb.lt;have d:=kb.cap (p:=a) (q:=b) (by omega) (by omega) (by omega) (by omega);rw[HX.out]at d;have HS:=yH hS;clear hS;go_wp2_with fail;all_goals first|exact HS|exact⟨rfl,HS⟩|rfl|exact⟨by omega,HS.out⟩
 simp only[yC,yA,yG];intro w' hS;refine yO rfl ?_;have kb:=yH ((KB.out.below hS KB.out.lt).capSet (p:=a) (q:=b) (by omega) (by omega) (by omega) (by omega) (x - n));have dm:=(KB.out.below hS KB.out.lt).cap (p:=a) (q:=b) (by omega) (by omega) (by omega) (by omega);have fr:=(KB.out.below hS KB.out.lt).frozen (a.toNat*17+b.toNat);have kk:=yH ((pAE (S:=(·=g)) hS).setCell (p:=⟨g,a.toNat*17+b.toNat,none⟩) (.inl rfl) (.int .i64 (x - n)));clear hS;go_wp2_with fail;generalize w'.setCell ⟨g,a.toNat*17+b.toNat,none⟩ (.int .i64 (x - n))=w2 at *;have KC:=yH KB.out;clear KB;have KB:=yH kb.out;clear kb dm fr C
 refine aCl (by kernel_rfl) 14 16 [(.pointer (some ⟨g,0,none⟩)),(.int .u8 b),(.int .u8 a),(.pointer (some ⟨g,0,none⟩)),(.pointer (some ⟨g,0,none⟩)),(.pointer (some ⟨g,b.toNat*17,none⟩)),(.pointer (some ⟨g,b.toNat*17+a.toNat,none⟩)),(.int .i64 y),(.int .i64 n),(.int .i64 (y+n)),(.pointer (some ⟨g,0,none⟩)),(.pointer (some ⟨g,0,none⟩)),(.pointer (some ⟨g,b.toNat*17,none⟩)),(.pointer (some ⟨g,b.toNat*17+a.toNat,none⟩))]
  (fun w'=>Below w2.heap.size w2 w') (by kernel_rfl) rfl (by kernel_rfl) yZ.drew ?_
 intro af haf;simp only[yG,List.append_eq,List.cons_append,List.nil_append,puts,Act.put,yA,yC,yF,yD,yE]at haf;subst haf;refine⟨?_,?_⟩
 ·simp only[yG,List.take_succ_cons,List.take_zero,aA8];refine⟨?z14,?z15,?z16,?z19,?z20,?z21,?z22,?_,?z17,?z18,?z23,?z24,?z25,?z26,trivial⟩
  case z14|z15|z16|z17|z18=>
   intro w' hS;refine yO rfl ?_;have HS:=yH hS;clear hS;go_wp2_with fail;all_goals first|exact HS|exact⟨rfl,HS⟩|rfl|exact⟨by omega,HS.out⟩
  case z19|z20|z21|z22|z23|z24|z25|z26=>
   intro w' hS;refine yO rfl ?_;have kb:=KB.out.below hS KB.out.lt;have hl:=kb.lt;have HS:=yH hS;clear hS;go_wp2_with fail;all_goals first|exact HS|exact⟨rfl,HS⟩|rfl|exact⟨by omega,HS.out⟩
  intro w' hS;refine yO rfl ?_;have kb:=KB.out.below hS KB.out.lt;have hl:=kb.lt;have d:=kb.cap (p:=b) (q:=a) (by omega) (by omega) (by omega) (by omega);rw[HY2.out]at d;have HS:=yH hS;clear hS;go_wp2_with fail;all_goals first|exact HS|exact⟨rfl,HS⟩|rfl|exact⟨by omega,HS.out⟩
 simp only[yC,yA,yG];intro w' hS;refine yO rfl ?_;have kb:=yH ((KB.out.below hS KB.out.lt).capSet (p:=b) (q:=a) (by omega) (by omega) (by omega) (by omega) (y+n));have dm:=(KB.out.below hS KB.out.lt).cap (p:=b) (q:=a) (by omega) (by omega) (by omega) (by omega);have fr:=(KB.out.below hS KB.out.lt).frozen (b.toNat*17+a.toNat);have k2:=yH ((kk.out.trans (pAE (S:=(·=g)) hS)).setCell (p:=⟨g,b.toNat*17+a.toNat,none⟩) (.inl rfl) (.int .i64 (y+n)));clear hS;go_wp2_with fail;generalize w'.setCell ⟨g,b.toNat*17+a.toNat,none⟩ (.int .i64 (y+n))=w3 at *;go_ret;exact⟨by rw[EE.out.1];rfl,by rw[EE.out.2];exact kb.out,k2.out⟩
def IsG(w:World)(v:Value)(f:Int→Int→Int):Prop:=(v=.pointer none∧f=aHg)∨∃g b,v=.pointer (some ⟨g,0,none⟩)∧Blk w g (graC f b) 271
theorem IsG.below{w w':World}{v:Value}{f:Int→Int→Int}(h:IsG w v f)(hb:Below w.heap.size w w'):IsG w' v f:=by
 rcases h with h|⟨g,b,h1,h2⟩
 ·exact .inl h
 exact .inr ⟨g,b,h1,h2.below hb h2.lt⟩
theorem gcopy_nil(w:World):Calls Tryz.prog 206 #[.pointer none] w (yS w (.pointer none)):=by
 go_enter Tryz.func206,Tryz.ntmps206;go_wp2;go_ret;exact⟨rfl,rfl⟩
theorem gcopy_any{w:World}{g:Nat}{f:Int→Int→Int}(h:Blk w g (graC f true) 271):
  Calls Tryz.prog 206 #[.pointer (some ⟨g,0,none⟩)] w fun e w'=>e=.returned (.pointer (some ⟨w.heap.size,0,none⟩))∧Blk w' w.heap.size (graC f true) 271∧Below w.heap.size w w':=by
 have d:=h.madeG;have hlt:=h.lt;have R:=yH (cap_range h);clear h;go_enter Tryz.func206,Tryz.ntmps206
 go_wp2_with first
  | ((with_reducible refine wpList_load_mid ?_ 269 (.tmp 14) ?_ g 0 ?_ (capA f).toList _ R.out Tryz.underlying269 ?_ (aQ7 _) ?_);exact rfl;exact rfl;exact rfl;exact rfl;rw[Array.toArray_toList])
  | ((with_reducible refine aCd ?_ 271 #[(0,.tmp 15),(1,.const (.bool true))] ?_ #[(0,.agg (capA f)),(1,.bool true)] ?_ (graC f true) (build_gra f _) ?_);exact rfl;exact rfl;simp[Act.eval,Act.put])
 go_ret;exact⟨rfl,pAA _ _ _,yZ.alloc yL _⟩
end Go.Proofs.YtojbmnbphdcjfaaGreat
