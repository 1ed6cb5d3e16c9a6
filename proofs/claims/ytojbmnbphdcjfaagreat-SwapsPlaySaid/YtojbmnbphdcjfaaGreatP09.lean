/- Pieces of one proof. -/
import Derived.Test.YtojbmnbphdcjfaaGreatP08
import Derived.Deep.RegionLaw
import Derived.Maps.AppendAt
import Derived.StillTailTactics
import Derived.Deep.Slices
import Derived.Deep.Fields
import Derived.ChangeSame
import Derived.OpenShut
import Derived.Lib.SmallJoins
set_option linter.all false
set_option maxHeartbeats 64000000
set_option maxRecDepth 100000
namespace Go.Proofs.YtojbmnbphdcjfaaGreat
open Go.RowKit
theorem aIi(f:Int→Int→Int)(x:Nat→Int)(n:Int)(i:Nat):capX f x n (i+1)=min (capX f x n i) (f (x i) (x (i+1))):=rfl
theorem RefG.drewN{w:World}{base g k:Nat}{es:List Fw}{vl:Value}(h:RefG w base g es vl):RefG (w.drewN k) base g es vl:=⟨h.blk,h.ge,h.row⟩
def RoutePost(f:Int→Int→Int)(s t want:Int)(e:TypeId)(w:World)(en:Ending)(w':World):Prop:=
 ∃(σ:RS) (v:Value),en=.returned (.tuple #[v,.int .i64 (want - σ.left)])∧aAk f 4398046511104 s t want σ∧w'.ownsRow w.heap.size e 3 v σ.out.length (aAo σ.out)∧Below w.heap.size w w'
theorem aPb{P:Program}{w w':World}{base:Nat}{t ty e:TypeId}{i:TypeInfo}{z:Value}{size bytes:Nat}(ht:P.underlying t=some (.slice e))(hi:P.info? e=some i)(hz:i.zero=some z)(hsize:i.size=size)(hby:i.bytes=bytes)
  {v v':Value}{n:Nat}{xs:List Value}(hown:w.ownsRow base e size v n xs){ad:Addr}{c:Nat}{news:List Value}(hl:news.length=1*size)(hnews:∀j u,news[j]? = some u→w.cell? (ad.add j)=some u)(h1:∀u∈news,u.oneCell'=true)
  (hn:n≤100000)(hb:bytes≤1000)(hr:(Builtin.append_ #[t,t] ty #[v,.slice (some ad) 1 c]).run P w=.ok v' w'):v'.ownBlock=v.ownBlock∨v'.ownBlock=some w.heap.size:=by
 subst hsize;subst hby;have hbb:=Nat.mul_le_mul (show n+1≤100001 by omega) hb;rcases hown.2 with⟨rfl,rfl⟩|⟨g,cap,cur,rfl,hbg,hg,hnc,hcm,hcs,htake⟩
 ·have h2:=run_append_nil (P:=P) w t ty e i z ht hi hz ad 1 c news hl hnews (by omega) (by omega) (by omega);rw[h2]at hr;simp only[Result.ok.injEq]at hr;rw[←hr.1];exact .inr rfl
 by_cases hroom:n+1≤cap
 ·have hfit:n*i.size+news.length≤cur.size:=by rw[hl,hcs,←Nat.add_mul];exact Nat.mul_le_mul_right _ hroom
  have h2:=run_append_room (P:=P) w t ty e i ht hi g n cap cur hg ad 1 c news hl hnews h1 hroom hfit;rw[h2]at hr;simp only[Result.ok.injEq]at hr;rw[←hr.1];exact .inl rfl
 have holds:∀j u,xs[j]? = some u→w.cell? ((⟨g,0,none⟩:Addr).add j)=some u:=hown.cells (g:=g) rfl;have h2:=run_append_grow (P:=P) w t ty e i z ht hi hz ⟨g,0,none⟩ n cap xs hown.1 holds ad 1 c news hl hnews (by omega) (by omega) (growslice_fits (by omega) (by omega));rw[h2]at hr;simp only[Result.ok.injEq]at hr;rw[←hr.1];exact .inr rfl
theorem aL9{P:Program}{ops:Array Oper}{o:Oper}{a:Act}{w:World}{K:Act→World→Prop}{Q:Exit→Act→World→Prop}{E:Prop}
  (hg:o.guard=none)(s x:Operand)(t:TypeId)(hop:o.op=Op.call { callee:=Callee.builtin Builtin.append,args:=#[s,x],argTypes:=#[t,t] })
  (base:Nat)(e:TypeId){z:Value}(ht:P.underlying t=some (.slice e))(hz0:z.cells.size=3)(hi:(P.info? e).map (fun i=>(i.zero,i.size,i.bytes))=some (some z,3,16))(v:Value)(l:List Fw)(hs:a.eval s=v)(hown:w.ownsRow base e 3 v l.length (aAo l))
  (g c:Nat)(y:Fw)(hx:a.eval x=.slice (some ⟨g,0,none⟩) 1 c)(hy:Blk w g #[.int .u8 y.fr,.int .u8 y.tt,.int .i64 y.am] e)(hlen:l.length≤100000)(hbase:base≤w.heap.size)
  (hK:∀v' w',w'.ownsRow base e 3 v' (l++[y]).length (aAo (l++[y]))→w.grownBy w' v.ownBlock→(v'.ownBlock=v.ownBlock∨v'.ownBlock=some w.heap.size)→K (a.put o.dst v') w'):
  if Region.wanted o (yielded ops a.tmps)=true then Oper.wp P o a w K Q else E:=by
 have hw:Region.wanted o (yielded ops a.tmps)=true:=by simp[Region.wanted,hg]
 rw[if_pos hw];obtain⟨i0,hi1,hi2,hi3,hi4⟩:=info_parts hi
 have hnews:∀j u,y.vals[j]? = some u→w.cell? ((⟨g,0,none⟩:Addr).add j)=some u:=fun j u hj=>by
   have:=hy.cell j;rw[Go.WideShapes.add_plain,Nat.zero_add,this]
   match j,hj with
   | 0,hj=>simpa [Fw.vals]using hj
   | 1,hj=>simpa [Fw.vals]using hj
   | 2,hj=>simpa [Fw.vals]using hj
   | j+3,hj=>simp[Fw.vals]at hj
 have hone:∀u∈y.vals,u.oneCell'=true:=by
   intro u hu;simp[Fw.vals]at hu;rcases hu with rfl|rfl|rfl <;> rfl
 obtain⟨v',w',hr,h2,h3,_⟩:=run_append_own_at (P:=P) w base t o.type e i0 z 3 16 ht hi1 hi2 hi3 hi4 hz0 (by decide) v l.length (aAo l) hown ⟨g,0,none⟩ 1 c y.vals rfl hnews hone (by unfold maxLen;omega) (by omega) hbase;have h4:=aPb ht hi1 hi2 hi3 hi4 hown (ad:=⟨g,0,none⟩) (c:=c) (news:=y.vals) rfl hnews hone (by omega) (by omega) hr
 have h2':w'.ownsRow base e 3 v' (l++[y]).length (aAo (l++[y])):=by
  rw[List.length_append,show aAo (l++[y])=aAo l++y.vals by simp[aAo]];exact h2
 unfold Oper.wp execOp;simp only[hop,resolve,invoke,builtin,Sem.run_bind,Sem.run_pure,Result.andThen_ok,List.map_toArray,List.map_cons,List.map_nil,hs,hx,hr];exact hK v' w' h2' h3 h4
theorem way_block{w:World}{base:Nat}{e:TypeId}{v:Value}{L:List Int}(h:w.ownsRow base e 1 v L.length (L.map (.int .u8)))(h0:0<L.length):
  ∃bl cap cs,v=.slice (some ⟨bl,0,none⟩) L.length cap∧base≤bl∧Blk w bl cs e∧L.length≤cap∧cap≤maxLen∧∀i,i<L.length→cs[i]? = some (.int .u8 (L.getD i 0)):=by
 obtain⟨_,⟨_,h2⟩|⟨g,cap,cur,rfl,hb,hg,h1,h2,h3,h4⟩⟩:=h
 ·omega
 refine⟨g,cap,cur,rfl,hb,hg,h1,h2,fun p hp=>?_⟩;have:(cur.toList.take (L.length*1))[p]? = (L.map (Value.int .u8))[p]? := by rw[h4]
 rw[List.getElem?_take_of_lt (by omega),Array.getElem?_toList,List.getElem?_map]at this;rw[this,List.getElem?_eq_getElem hp];simp[List.getElem?_eq_getElem hp]
theorem aDj{w:World}{g h:Nat}{cs ds:Array Value}{t u:TypeId}(a:Blk w g cs t)(b:Blk w h ds u)(hn:t≠u):g≠h:=by
 rintro rfl;have e:=a.out;rw[b.out]at e;simp only[Option.some.injEq,Obj.cells.injEq]at e;exact hn e.2.1.symm
def RtAt(w:World)(base g:Nat)(f:Int→Int→Int)(s t want:Int)(ov lv:Value)(wr:World):Prop:=
 ∃(k:Nat) (σ:RS) (vl:Value),RInv f 4398046511104 s t want k σ∧lv=.int .i64 σ.left∧wr.ownsRow w.heap.size 206 3 ov σ.out.length (aAo σ.out)∧RefG wr base g (allE σ.f) vl∧(∀b,vl.ownBlock=some b→¬ov.ownBlock=some b)∧Below w.heap.size w wr
def CapAt(W:World)(f:Int→Int→Int)(x:Nat→Int)(n:Int)(m:Nat)(nv i:Value)(wr:World):Prop:=
 ∃j:Nat,j≤m∧i=.int .i64 ((j:Int)+1)∧nv=.int .i64 (capX f x n j)∧Below W.heap.size W wr
def PshAt(w:World)(base g:Nat)(f:Int→Int→Int)(x:Nat→Int)(n:Int)(m:Nat)(out:List Fw)(bl:Nat)(ov i:Value)(wr:World):Prop:=
 ∃(j:Nat) (vl:Value),j≤m∧i=.int .i64 ((j:Int)+1)∧wr.ownsRow w.heap.size 206 3 ov (out++flX x n j).length (aAo (out++flX x n j))∧RefG wr base g (allE (aDm f x n j)) vl∧(∀b,vl.ownBlock=some b→¬ov.ownBlock=some b)∧
  bl<wr.heap.size∧(∃cs,Blk wr bl cs 39∧∀i,i≤m→cs[i]? = some (.int .u8 (x i)))∧Below w.heap.size w wr
theorem aMm{w:World}{base g:Nat}{f:Int→Int→Int}{vl:Value}{s t want:Int}(h:RefG w base g (allE f) vl)(hI:GInv f 4398046511104)(hs:In8 s)(ht:In8 t)(hw:In64 want):
  Calls Tryz.prog 145 #[.pointer (some ⟨g,0,none⟩),.int .u8 s,.int .u8 t,.int .i64 want] w (RoutePost f s t want 206 w):=by
 have CC:=yH (rcopyG_any h (by have:=aIb f 256;unfold allE;omega));have HI:=yH hI;have HS:=yH hs;have HT:=yH ht;obtain⟨w0,w9⟩:=hw;clear h hI hs ht;go_enter Tryz.func145,Tryz.ntmps145;go_wp2_with fail;refine CC.out.mono ?_;rintro e w1 ⟨c,vc,rfl,hr1,hc,hvc,b1⟩;have R1:=yH hr1;have B1:=yH b1;have S1:=yH (RInv.start HI.out s t want);have hb1:=b1.size;clear hr1 b1 CC hvc;go_wp2_with fail
 go_loopw [11,12] (RtAt w base c f s t want) (fun _ l _=>(intOf l).toNat)
 case atStart=>exact⟨0,_,vc,S1.out,rfl,World.ownsRow_nil _ _ _ _,R1.out,(fun b _ h=>by cases h),B1.out⟩
 clear R1 B1 S1;obtain⟨k,σ,vl,hS,rfl,hown,hR,hsep,hB⟩:=hrel;have SI:=yH hS;have OW:=yH hown;have RG:=yH hR;have SP:=yH hsep;have BB:=yH hB;have hlo:=hS.lo;have hhi:=hS.hi;have hcl:=hR.blk.lt;clear hS hown hR hsep hB
 by_cases hpos:0<σ.left
 ·have q0:decide (0<σ.left)=true:=by simpa using hpos
  have CS:=yH (rshort_any RG.out SI.out.g HS.out HT.out)
  by_cases hL:aAt σ.f s t=[]
  ·rw[hL]at CS;have DN:=yH (⟨k,SI.out,.inr hL⟩:aAk f 4398046511104 s t want σ);have hl0:0≤σ.left:=by omega
   clear hL;obtain⟨oo,oc,hov,_⟩:=aAd OW.out;subst hov;go_wp2_with fail;refine CS.out.mono ?_;rintro e w2 ⟨wv,rfl,hwo,b2⟩;obtain⟨wa,wc,rfl,_⟩:=aAd hwo;have O2:=yH (aAc OW.out b2);have B2:=yT BB b2;clear hwo b2 CS;go_wp2_with fail;refine bodyPost_ret (v:=.tuple #[.slice oo σ.out.length oc,.int .i64 (want - σ.left)]) (by simp[results,Tryz.results145,go_sem]) rfl ?_;exact⟨σ,_,rfl,DN.out,O2.out,B2.out⟩
  have hnd:¬aC3 s t σ:=fun hd=>by
   rcases hd with q|q
   ·omega
   exact hL q
  obtain⟨m,n,hm,hw,hn,n1,n2,n3,he⟩:=SI.out.way hnd;have hsn:=SI.out.step hnd;rw[he]at hsn;have SN:=yH hsn;have WX:=yH hw;have NE:=yH n3;have HN:=yH hn;have hm15:=hw.m15;have hm1:=hw.m1;have hm0:=yH hm;clear hL hnd hsn hw n3 he hm hn;go_wp2_with fail;refine CS.out.mono ?_;rintro e W ⟨wv,rfl,hwo,b2⟩;obtain⟨bl,wc,cs,rfl,hbl,hcs,hwc1,hwc2,hxs⟩:=way_block hwo (by rw[hm0.out];omega);have hbW:=hcs.lt;have KW:=yH hcs;have O2:=yH (aAc OW.out b2);have RG2:=yH (RG.out.below b2);have B2:=yT BB b2;have hWs:=Nat.le_trans BB.out.size b2.size;rw[hm0.out]at hwc1 ⊢;have XS:=yH (show ∀i,i≤m→cs[i]? = some (.int .u8 (wayX σ.f s t i))from fun i hi=>hxs i (by rw[hm0.out];omega));have hclW:=RG2.out.blk.lt;clear hwo b2 CS hcs hxs OW RG BB hm0;generalize hx:wayX σ.f s t=x at *;clear hx;obtain⟨N,hN⟩:∃N,N=m+1:=⟨_,rfl⟩;rw[←hN]at hwc1 ⊢;have HNN:=yH hN;have qN:((N:Int)==0)=false:=by simp;omega
  clear hN;go_wp2_with fail
  go_loopw [14,15] (CapAt W σ.f x σ.left m) (fun _ i _=>m+1 - (intOf i).toNat)
  case atStart=>exact⟨0,by omega,rfl,rfl,yZ⟩
  obtain⟨j,hj,rfl,rfl,hb⟩:=hrel;have BW:=yH hb;have hbr:=yM hbW hb.size;clear hb;have hNm:=HNN.out
  by_cases hjm:j<m
  ·have qj:decide ((j:Int)+1<(N:Int))=true:=by simp;omega
   have i0:(0:Int)≤(j:Int):=by omega
   have i1:(j:Int)<(N:Int):=by omega
   have i2:(j:Int)+1<(N:Int):=by omega
   have e0:=(BW.out.cell (p:=⟨bl,j,none⟩) hbW).trans ((KW.out.cell j).trans (XS.out j (by omega)));have e1:=(BW.out.cell (p:=⟨bl,j+1,none⟩) hbW).trans ((KW.out.cell (j+1)).trans (XS.out (j+1) (by omega)));have RGr:=yH (RG2.out.below BW.out);have CP:=yH (fun k=>aIc (RGr.out.drewN (k:=k)) (x j) (x (j+1)));rw[SI.out.g.cap]at CP;have NX:=yH (aIi σ.f x σ.left j);have hcb:=SI.out.g.nn (x j) (x (j+1));clear hNm;generalize capX σ.f x σ.left j=y at *;generalize hz:σ.f (x j) (x (j+1))=z at *;generalize x j=u at *;generalize x (j+1)=v at *;clear hz;rcases Int.lt_or_le z y with hc|hc
   ·rw[Int.min_eq_right (by omega)]at NX;go_wp2_with fail
    go_quiet (refine Calls.quiet_of_same (CP.out _))
    go_wp2;go_roundw
    case rel=>exact⟨j+1,by omega,by go_num,by rw[NX.out],⟨BW.out.os,BW.out.tape,BW.out.output,BW.out.size,BW.out.block⟩⟩
    case measure=>simp[intOf];omega
   rw[Int.min_eq_left (by omega)]at NX;go_wp2_with fail
   go_quiet (refine Calls.quiet_of_same (CP.out _))
   go_wp2;go_roundw
   case rel=>exact⟨j+1,by omega,by go_num,by rw[NX.out],⟨BW.out.os,BW.out.tape,BW.out.output,BW.out.size,BW.out.block⟩⟩
   case measure=>simp[intOf];omega
  have hjm2:j=m:=by omega
  subst hjm2;have qj:decide ((j:Int)+1<(N:Int))=false:=by simp;omega
  rw[←HN.out];have RG3:=yH (RG2.out.below BW.out);have O3:=yH (aAc O2.out BW.out);have KW3:=yH (KW.out.below BW.out hbW);have B3:=yH (B2.out.trans (BW.out.mono B2.out.size));have hcl3:=RG3.out.blk.lt;clear hNm BW RG2 O2 KW B2 HN;go_wp2_with fail
  go_loopw [11,16] (PshAt w base c σ.f x n j σ.out bl) (fun _ i _=>j+1 - (intOf i).toNat)
  case atStart=>exact⟨0,vl,by omega,rfl,by rw[show flX x n 0=[]from rfl,List.append_nil];exact O3.out,RG3.out,SP.out,KW3.out.lt,⟨cs,KW3.out,XS.out⟩,B3.out⟩
  clear RG3 O3 KW3 B3 hbr SP hcl3;obtain⟨i,vl,hi,rfl,hown,hR,hsep,hbr,⟨cs',hk',hx'⟩,hB⟩:=hrel;have OW:=yH hown;have RG:=yH hR;have SP:=yH hsep;have KW:=yH hk';have XW:=yH hx';have BB:=yH hB;have hcr:=hR.blk.lt;clear hown hR hsep hk' hx' hB;have hNm:=HNN.out
  by_cases him:i<j
  ·have qi:decide ((i:Int)+1<(N:Int))=true:=by simp;omega
   have i0:(0:Int)≤(i:Int):=by omega
   have i1:(i:Int)<(N:Int):=by omega
   have i2:(i:Int)+1<(N:Int):=by omega
   have GI:=aIe SI.out.g WX.out n1 NE.out i (by omega);have hah:=aD4 (n:=n) WX.out i i yL him;have hne:=NE.out i him
   have EE:Hid (aGg (allE (aDm σ.f x n i)) (x i) (x (i+1)) n=0∧aHh (allE (aDm σ.f x n i)) (x i) (x (i+1)) n=allE (aDm σ.f x n (i+1))):=yH (by
    rw[aKp GI,aQ0 GI,hah,if_neg (by omega),if_neg (by omega),if_pos ⟨n1,hne⟩];exact⟨rfl,rfl⟩)
   have FX:Hid (σ.out++flX x n (i+1)=(σ.out++flX x n i)++[⟨x i,x (i+1),n⟩]):=yH (by rw[show flX x n (i+1)=flX x n i++[⟨x i,x (i+1),n⟩]from rfl,List.append_assoc]);have CP:=yH (fun w' (hS:Below wr.heap.size wr w')=>aOy (RG.out.below hS) GI.capB (by decide) (by decide) (x i) (x (i+1)) n);have EU:=yH (XW.out i (by omega));have EV:=yH (XW.out (i+1) (by omega))
   have hlen:(σ.out++flX x n i).length≤90000:=by
    rw[List.length_append,aNk];have:=SI.out.len;have:=SI.out.k5;omega
   clear hNm hah hne GI;generalize x i=u at *;generalize x (i+1)=v at *;generalize σ.out++flX x n i=out at *;go_wp2_with fail
   refine aCl (by kernel_rfl) 11 16 [(.pointer (some ⟨c,0,none⟩)),(.slice (some ⟨bl,0,none⟩) N wc),(.int .i64 ((i:Int)+1)),(.int .i64 i),(.pointer (some ⟨bl,i,none⟩)),(.int .u8 u),(.slice (some ⟨bl,0,none⟩) N wc),(.int .i64 ((i:Int)+1)),(.pointer (some ⟨bl,i+1,none⟩)),(.int .u8 v),(.int .i64 n),(.int .i64 0)]
    (fun w'=>Below wr.heap.size wr w') (by kernel_rfl) rfl (by kernel_rfl) yZ.drew ?_
   intro af haf;simp only[yG,List.append_eq,List.cons_append,List.nil_append,puts,Act.put,yA,yC,yF,yD,yE]at haf;subst haf;refine⟨?_,?_⟩
   ·simp only[yG,List.take_succ_cons,List.take_zero,aA8];refine⟨?z1,?z2,?z3,?z4,?z8,?z9,?z5,?z6,?z10,?z11,?z7,trivial⟩
    case z1|z2|z3|z4|z5|z6|z7=>
     intro w' hS;refine yO rfl ?_;have HS:=yH hS;clear hS;go_wp2_with fail;all_goals first|exact HS|exact⟨rfl,HS⟩|rfl|exact⟨by omega,HS.out⟩
    case z8|z9=>
     intro w' hS;refine yO rfl ?_;have e:=(hS.cell (p:=⟨bl,i,none⟩) hbr).trans ((KW.out.cell i).trans EU.out);have hbb:=yM hbr hS.size;have HS:=yH hS;clear hS;go_wp2_with fail;all_goals first|exact HS|exact⟨rfl,HS⟩|rfl|exact⟨by omega,HS.out⟩
    case z10|z11=>
     intro w' hS;refine yO rfl ?_;have e:=(hS.cell (p:=⟨bl,i+1,none⟩) hbr).trans ((KW.out.cell (i+1)).trans EV.out);have hbb:=yM hbr hS.size;have HS:=yH hS;clear hS;go_wp2_with fail;all_goals first|exact HS|exact⟨rfl,HS⟩|rfl|exact⟨by omega,HS.out⟩
   simp only[yC,yA,yG];intro w' hS;refine yO rfl ?_;have CQ:=yH (CP.out w' hS);have HB:=yH hS;clear hS CP;go_wp2_with fail;refine CQ.out.mono ?_;rintro e w5 ⟨he,vl5,hr5,k5,n5⟩;rw[EE.out.1]at he;subst he;rw[EE.out.2]at hr5;refine⟨rfl,?_⟩;have O5:=yH (aAm (aAc OW.out HB.out) k5 (aAl (aAc OW.out HB.out) (RG.out.below HB.out).blk (by decide)));have hbc:bl≠c:=aDj KW.out RG.out.blk (by decide);have K5:=yH (show Blk w5 bl cs' 39 from(k5.block bl (yM hbr HB.out.size) hbc).trans (KW.out.below HB.out hbr));have B5:=yH ((BB.out.trans (HB.out.mono BB.out.size)).trans (k5.below (Nat.le_trans BB.out.size HB.out.size) (fun q hq e=>by omega)))
   have S5:=yH (show ∀b,vl5.ownBlock=some b→¬u11.ownBlock=some b from fun b hb1 hb2=>by
    rcases n5 with q|q
    ·rw[q]at hb1;exact SP.out b hb1 hb2
    have a1:=q b hb1;have a2:=(aAe OW.out hb2).2.1;have a3:=HB.out.size;omega)
   have R5:=yH hr5;have E5:=yH (K5.out.cell i);have E6:=yH (K5.out.cell (i+1));rw[EU.out]at E5;rw[EV.out]at E6;have hb5:=K5.out.lt;have e5:=E5.out;have e6:=E6.out;clear hr5 k5 n5 CQ OW SP RG KW hbc HB;go_wp2_with fail;have i4:(0:Int)≤(i:Int)+1:=by omega
   have hwi:IntKind.i64.wrap (i:Int)=(i:Int):=by simp[IntKind.wrap,IntKind.signed,IntKind.bits];omega
   go_region_law (refine aL9 rfl (.tmp 67) (.tmp 79) 200 rfl w.heap.size 206 Tryz.underlying200 rfl aNh u11 out rfl (aAc O5.out (yZ.drew.alloc yL _)) w5.heap.size 1 ⟨u,v,n⟩ rfl (pAA w5.drew _ _) (by omega) (by have:=B5.out.size;simp;omega) ?_;intro v' w' ho hgr hvb;have HO:=yH ho;have HGR:=yH hgr;have HVB:=yH hvb;clear ho hgr hvb)
   all_goals
    have R2:∀k,Value.ownBlock u11=some k→w.heap.size≤k:=fun k hk=>(aAe O5.out hk).1
    have O6:=yH (show World.ownsRow _ w.heap.size 206 3 _ (out++[(⟨u,v,n⟩:Fw)]).length (aAo (out++[(⟨u,v,n⟩:Fw)]))from HO.out);have B6:=yH (((B5.out.trans ((Below.refl w5.heap.size w5).drew.mono B5.out.size)).alloc (by have:=B5.out.size;simpa using this) _).grown HGR.out (by have:=B5.out.size;simp;omega) (fun k hk=>R2 k hk));have hso:=HGR.out.size
    have RG6:=yH (show RefG _ base c _ vl5 from
     ⟨(HGR.out.block c (by have:=R5.out.blk.lt;simp;omega) (fun e=>aAl O5.out R5.out.blk (by decide) _ e.symm rfl)).trans (R5.out.blk.drew.alloc _).out,R5.out.ge,aAm (S:=fun b=>u11.ownBlock=some b) (R5.out.below ((Below.refl w5.heap.size w5).drew.alloc yL _)).row ⟨HGR.out.os,HGR.out.tape,HGR.out.output,HGR.out.size,fun k hk hn=>HGR.out.block k hk (fun e=>hn e.symm)⟩ (fun b hb=>S5.out b hb)⟩)
    have KW6:=yH (show Blk _ bl cs' 39 from(HGR.out.block bl (by have:=K5.out.lt;simp;omega) (fun e=>aAl O5.out K5.out (by decide) _ e.symm rfl)).trans (K5.out.drew.alloc _).out)
    have S6:=yH (show ∀b,vl5.ownBlock=some b→¬v'.ownBlock=some b from fun b hb1 hb2=>by
     have a0:=(aAe R5.out.row hb1).2.1;rcases HVB.out with q|q
     ·rw[q]at hb2;exact S5.out b hb1 hb2
     rw[q]at hb2;simp at hb2;omega)
    have hb6:=KW6.out.lt;clear R2 HO HGR HVB hso R5 S5 K5 B5 O5 E5 E6 e5 e6;go_wp2;go_roundw
    case rel=>exact⟨i+1,vl5,by omega,by go_num,by rw[FX.out];exact O6.out,RG6.out,S6.out,hb6,⟨cs',KW6.out,XW.out⟩,B6.out⟩
    case measure=>simp[intOf];omega
  have hij:i=j:=by omega
  subst hij;have qi:decide ((i:Int)+1<(N:Int))=false:=by simp;omega
  obtain⟨oo,oc,hov,_⟩:=aAd OW.out;subst hov;clear hNm;go_wp2_with fail;go_roundw
  case rel=>exact⟨k+1,_,vl,SN.out,rfl,OW.out,RG.out,SP.out,BB.out⟩
  case measure=>simp[intOf];omega
 have hl0:¬0<σ.left:=hpos;have DN:=yH (⟨k,SI.out,.inl (by omega)⟩:aAk f 4398046511104 s t want σ);obtain⟨oo,oc,hov,_⟩:=aAd OW.out;subst hov;rcases Int.lt_or_le 0 want with hwp|hwp
 ·have hlz:σ.left=0:=by omega
  rw[hlz];clear hpos hlo hhi hl0;go_wp2_with fail;refine bodyPost_ret (v:=.tuple #[.slice oo σ.out.length oc,.int .i64 (want - σ.left)]) (by rw[hlz];simp[results,Tryz.results145,go_sem]) rfl ?_;exact⟨σ,_,rfl,DN.out,OW.out,BB.out⟩
 have hlz:σ.left=want:=by omega
 have hw0:=yH (show want - σ.left=0 by omega);rw[hlz];clear hpos hlo hhi hl0 hlz;rcases Int.lt_or_le want 0 with hn|hn
 ·go_wp2_with fail;refine bodyPost_ret (v:=.tuple #[.slice oo σ.out.length oc,.int .i64 (want - σ.left)]) (by rw[hw0.out];simp[results,Tryz.results145,go_sem]) rfl ?_;exact⟨σ,_,rfl,DN.out,OW.out,BB.out⟩
 have hz:want=0:=by omega
 clear hwp hn w0 w9;subst hz;go_wp2_with fail;refine bodyPost_ret (v:=.tuple #[.slice oo σ.out.length oc,.int .i64 (0 - σ.left)]) (by rw[hw0.out];simp[results,Tryz.results145,go_sem]) rfl ?_;exact⟨σ,_,rfl,DN.out,OW.out,BB.out⟩
def MostPost(f:Int→Int→Int)(s t:Int)(w:World)(en:Ending)(w':World):Prop:=
 ∃μ:RS,en=.returned (.int .i64 (aBk - μ.left))∧aAk f 4398046511104 s t aBk μ∧Below w.heap.size w w'
theorem rmost_any{w:World}{base g:Nat}{f:Int→Int→Int}{vl:Value}{s t:Int}(h:RefG w base g (allE f) vl)(hI:GInv f 4398046511104)(hs:In8 s)(ht:In8 t):
  Calls Tryz.prog 180 #[.pointer (some ⟨g,0,none⟩),.int .u8 s,.int .u8 t] w (MostPost f s t w):=by
 have C:=yH (aMm h hI hs ht (want:=4611686018427387904) (by unfold In64;omega));clear h hI hs ht;go_enter Tryz.func180,Tryz.ntmps180;go_wp2_with fail;refine C.out.mono ?_;rintro e w1 ⟨σ,v,rfl,hR,hown,hb⟩;have HR:=yH (show aAk f 4398046511104 s t aBk σ from hR);have HB:=yH hb;obtain⟨z,hz⟩:∃z,(4611686018427387904:Int) - σ.left=z:=⟨_,rfl⟩;have HZ:=yH (show z=aBk - σ.left from hz.symm);rw[hz];clear hz hR hb hown C;go_wp2_with fail;refine bodyPost_ret (v:=.int .i64 z) (by simp[results,Tryz.results180,go_sem]) rfl ?_;exact⟨σ,by rw[HZ.out],HR.out,HB.out⟩
end Go.Proofs.YtojbmnbphdcjfaaGreat
namespace Go.Proofs.YtojbmnbphdcjfaaGreat
open Go.RowKit Go.ChangeShapes Go.WideShapes Go.Deep
section
variable{H:Type}{enc:TypeId×Value→H}{P:Program}{w:World}{base:Nat}{spare:Nat→Bool}{held:Bool}
theorem nums_read{t:TypeId}{fs:Array Field}{ks:List IntKind}(hu:P.underlying t=some (.struct fs))(hone:oneCellFields P fs=true)(hC:P.cellsOf t=ks.length)
  (hk:∀(j:Nat) (k:IntKind),ks[j]? = some k→∃f,fs[j]? = some f∧P.underlying f.type=some (.int k)){fuel:Nat}{cs:List Value}{x:DataW H×List MemPlace}(h:DataW.trod enc P w base spare held fuel t cs=some x):
  cs.length=ks.length∧∀(j:Nat) (k:IntKind),ks[j]? = some k→∃n,cs[j]? = some (.int k n)∧(Lit.int k n).wf=true:=by
 obtain⟨xs,n,_,_,hlen,hxl,hf⟩:=DataW.trod_struct hu h;rw[hC]at hlen;refine⟨hlen,fun j k hj=>?_⟩;have hjl:j<ks.length:=(List.getElem?_eq_some_iff.1 hj).1;obtain⟨f,hfj,hfk⟩:=hk j k hj;obtain⟨ho,hc⟩:=hone_of hone j f hfj;have h1:=hf j f hfj
 have hone':(cs.drop j).take 1=[cs[j]'(by omega)]:=by
  rw[List.drop_eq_getElem_cons (by omega)];rfl
 rw[ho,hc,hone']at h1;have hjf:j<fs.size:=(Array.getElem?_eq_some_iff.1 hfj).1;have h2:xs[j]? = some (xs[j]'(by omega)):=List.getElem?_eq_getElem (by omega);rw[h2]at h1;obtain⟨m,hm,_,hw⟩:=DataW.trod_int hfk h1;refine⟨m,?_,hw⟩;rw[List.getElem?_eq_getElem (by omega)];simpa using hm
end
structure Ac where
 k:Int
 a:Int
 b:Int
 c:Int
 n:Int
def Ac.vals(x:Ac):List Value:=[.int .u8 x.k,.int .u8 x.a,.int .u8 x.b,.int .u8 x.c,.int .i64 x.n]
structure Ac.Ok(x:Ac):Prop where
 k:In8 x.k
 a:In8 x.a
 b:In8 x.b
 c:In8 x.c
 n:In64 x.n
theorem In8.of_wf{n:Int}(h:(Lit.int .u8 n).wf=true):In8 n:=by
 simp[Lit.wf,IntKind.min,IntKind.max,IntKind.signed,IntKind.bits]at h;exact⟨by omega,by omega⟩
theorem ac_of{cs:List Value}(h1:cs.length=5)(h:∀(j:Nat) (k:IntKind),([.u8,.u8,.u8,.u8,.i64]:List IntKind)[j]? = some k→∃n,cs[j]? = some (.int k n)∧(Lit.int k n).wf=true):∃x:Ac,x.Ok∧cs=x.vals:=by
 obtain⟨n0,e0,w0⟩:=h 0 _ rfl;obtain⟨n1,e1,w1⟩:=h 1 _ rfl;obtain⟨n2,e2,w2⟩:=h 2 _ rfl;obtain⟨n3,e3,w3⟩:=h 3 _ rfl;obtain⟨n4,e4,w4⟩:=h 4 _ rfl
 match cs,h1 with
 | [c0,c1,c2,c3,c4],_=>
  simp at e0 e1 e2 e3 e4;subst e0 e1 e2 e3 e4;exact⟨⟨n0,n1,n2,n3,n4⟩,⟨In8.of_wf w0,In8.of_wf w1,In8.of_wf w2,In8.of_wf w3,In64.of_wf w4⟩,rfl⟩
theorem act_kinds:∃fs,Tryz.prog.underlying 92=some (.struct fs)∧oneCellFields Tryz.prog fs=true∧∀(j:Nat) (k:IntKind),([.u8,.u8,.u8,.u8,.i64]:List IntKind)[j]? = some k→∃f,fs[j]? = some f∧Tryz.prog.underlying f.type=some (.int k):=by
 refine⟨_,Tryz.underlying92,by kernel_rfl,?_⟩;intro j k hj
 match j,hj with
 | 0,hj=>cases hj;exact⟨_,rfl,Tryz.underlying5⟩
 | 1,hj=>cases hj;exact⟨_,rfl,Tryz.underlying39⟩
 | 2,hj=>cases hj;exact⟨_,rfl,Tryz.underlying39⟩
 | 3,hj=>cases hj;exact⟨_,rfl,Tryz.underlying40⟩
 | 4,hj=>cases hj;exact⟨_,rfl,Tryz.underlying2⟩
 | j+5,hj=>simp at hj
section
variable{H:Type}{enc:TypeId×Value→H}{w:World}{base:Nat}{spare:Nat→Bool}{held:Bool}
theorem act_read{fuel:Nat}{cs:List Value}{x:DataW H×List MemPlace}(h:DataW.trod enc Tryz.prog w base spare held fuel 92 cs=some x):∃x:Ac,x.Ok∧cs=x.vals:=by
 obtain⟨fs,hu,ho,hk⟩:=act_kinds;have hC:Tryz.prog.cellsOf 92=5:=by kernel_rfl
 generalize Tryz.prog=P at *;obtain⟨h1,h2⟩:=nums_read (ks:=[.u8,.u8,.u8,.u8,.i64]) hu ho hC hk h;exact ac_of h1 h2
def aHj(w:World)(a:Option Addr)(len cap:Nat)(xs:List Ac):Prop:=
 xs.length=len∧(∀x∈xs,x.Ok)∧len≤cap∧cap≤maxLen∧(0<len→∃b off,a=some ⟨b,off,none⟩∧b<w.heap.size∧∀i (h:i<xs.length) (j:Nat) (v:Value),xs[i].vals[j]? = some v→w.cell? ⟨b,off+i*5+j,none⟩=some v)
theorem acts_open{a:Option Addr}{len cap:Nat}{d:DataW H}{p:List MemPlace}(h:DataW.Trod enc Tryz.prog w base spare held 22 (.slice a len cap) d p):∃xs,aHj w a len cap xs:=by
 obtain⟨fuel,hf⟩:=h;rcases open_slice Tryz.underlying22 hf with⟨h0,_⟩|⟨ad,l,c,m,n,D,Pl,hcs,hb,hl,hm,hmm,hx,hi⟩
 ·simp[Value.cells]at h0;obtain⟨rfl,rfl,rfl⟩:=h0;exact⟨[],rfl,by simp,Nat.le_refl _,by unfold maxLen;omega,fun h=>by omega⟩
 simp[Value.cells]at hcs;obtain⟨rfl,rfl,rfl⟩:=hcs;have hC:Tryz.prog.cellsOf 92=5:=by kernel_rfl
 have hlm:len≤m:=by rw[hmm];split <;> omega
 have key:∀i,i<len→∃x:Ac,x.Ok∧∀(j:Nat) (v:Value),x.vals[j]? = some v→w.cell? ((ad.add (i*5)).add j)=some v:=by
  intro i hil;obtain⟨cs',hc,ht⟩:=hi i (by omega);rw[hC]at hc;obtain⟨x,hx,rfl⟩:=act_read ht;obtain⟨_,_,hat⟩:=World.cells?_some hc;refine⟨x,hx,fun j v hj=>?_⟩
  have hj5:j<5:=by
   have:=(List.getElem?_eq_some_iff.1 hj).1;exact this
  rw[hat j hj5,hj]
 have hex:∀k,k≤len→∃xs:List Ac,xs.length=k∧(∀x∈xs,x.Ok)∧∀i (h:i<xs.length) (j:Nat) (v:Value),xs[i].vals[j]? = some v→w.cell? ((ad.add (i*5)).add j)=some v:=by
  intro k
  induction k with
  | zero=>intro _;exact⟨[],rfl,by simp,fun i h=>by simp at h⟩
  | succ k ih=>
   intro hk;obtain⟨xs,h1,h2,h3⟩:=ih (by omega);obtain⟨x,hx,hxc⟩:=key k (by omega);refine⟨xs++[x],by simp[h1],?_,?_⟩
   ·intro y hy;rcases List.mem_append.1 hy with hy|hy
    ·exact h2 y hy
    rw[List.mem_singleton]at hy;rw[hy];exact hx
   intro i hi j v hv
   by_cases hik:i<xs.length
   ·rw[List.getElem_append_left hik]at hv;exact h3 i hik j v hv
   have:i=k:=by rw[List.length_append,List.length_singleton]at hi;omega
   subst this;rw[List.getElem_append_right (by omega)]at hv;simp[h1]at hv;exact hxc j v hv
 obtain⟨xs,h1,h2,h3⟩:=hex len yL;refine⟨xs,h1,h2,hl,hm,fun hp=>?_⟩;have h00:=h3 0 (by omega) 0 _ rfl
 have hsp:ad.spot=none:=by
  rcases hs:ad.spot with _|s
  ·rfl
  exfalso;rw[Go.Deep.add_add]at h00;have e:(ad.add (0*5+0)).spot=ad.spot:=by cases ad;simp[Addr.add]
  unfold World.cell? at h00;rw[e,hs]at h00;split at h00
  ·simp at h00
  cases h00
 obtain⟨b,off,sp⟩:=ad;simp only at hsp;subst hsp
 have hcell:∀i (h:i<xs.length) (j:Nat) (v:Value),xs[i].vals[j]? = some v→w.cell? ⟨b,off+i*5+j,none⟩=some v:=by
  intro i hi j v hv;have:=h3 i hi j v hv;rw[Go.Deep.add_add,Go.WideShapes.add_plain]at this;rw[Nat.add_assoc];exact this
 exact⟨b,off,rfl,World.block_lt_of_cell? _ _ (hcell 0 (by omega) 0 _ rfl),hcell⟩
end
theorem aHj.below{w w':World}{a:Option Addr}{len cap:Nat}{xs:List Ac}(h:aHj w a len cap xs)(k:Below w.heap.size w w'):aHj w' a len cap xs:=by
 obtain⟨h1,h2,h3,h4,h5⟩:=h;refine⟨h1,h2,h3,h4,fun hp=>?_⟩;obtain⟨b,off,rfl,hlt,hc⟩:=h5 hp;exact⟨b,off,rfl,yM hlt k.size,fun i hi j v hv=>by rw[k.cell (p:=⟨b,off+i*5+j,none⟩) hlt];exact hc i hi j v hv⟩
theorem aHj.at{w:World}{a:Option Addr}{len cap:Nat}{xs:List Ac}(h:aHj w a len cap xs){i:Nat}(hi:i<xs.length):∃b off,a=some ⟨b,off,none⟩∧b<w.heap.size∧
  w.cell? ⟨b,off+i*5,none⟩=some (.int .u8 xs[i].k)∧w.cell? ⟨b,off+i*5+1,none⟩=some (.int .u8 xs[i].a)∧w.cell? ⟨b,off+i*5+2,none⟩=some (.int .u8 xs[i].b)∧w.cell? ⟨b,off+i*5+3,none⟩=some (.int .u8 xs[i].c)∧w.cell? ⟨b,off+i*5+4,none⟩=some (.int .i64 xs[i].n):=by
 obtain⟨h1,h2,h3,h4,h5⟩:=h;obtain⟨b,off,rfl,hlt,hc⟩:=h5 (by omega);exact⟨b,off,rfl,hlt,by have:=hc i hi 0 _ rfl;simpa using this,hc i hi 1 _ rfl,hc i hi 2 _ rfl,hc i hi 3 _ rfl,hc i hi 4 _ rfl⟩
end Go.Proofs.YtojbmnbphdcjfaaGreat
namespace Go.Proofs.YtojbmnbphdcjfaaGreat
open Go.RowKit
structure Of where
 se:Int
 ow:Int
 sl:Int
 bu:Int
 lf:Int
 nu:Int
 de:Int
deriving DecidableEq
def Of.vals(x:Of):List Value:=[.int .u64 x.se,.int .u8 x.ow,.int .u8 x.sl,.int .u8 x.bu,.int .i64 x.lf,.int .i64 x.nu,.int .i64 x.de]
theorem Of.vals_len(x:Of):x.vals.length=7:=rfl
def aAa(ls:List Of):List Value:=ls.flatMap Of.vals
def Of.val(x:Of):Value:=.agg #[.int .u64 x.se,.int .u8 x.ow,.int .u8 x.sl,.int .u8 x.bu,.int .i64 x.lf,.int .i64 x.nu,.int .i64 x.de]
theorem aAr(ls:List Of):(aAa ls).length=ls.length*7:=aJ5 _ 7 Of.vals_len ls
theorem aAp(ls:List Of)(i j:Nat)(hj:j<7)(h:i<ls.length):(aAa ls)[i*7+j]? = ls[i].vals[j]? := by
 unfold aAa;rw[aH6 _ 7 Of.vals_len ls i j hj,List.getElem?_eq_getElem h];rfl
theorem aAv(a b:List Of):aAa (a++b)=aAa a++aAa b:=by unfold aAa;exact List.flatMap_append
theorem aFy(x:Of):aAa [x]=x.vals:=by simp[aAa]
structure Of.Fits(x:Of):Prop where
 se:(0≤x.se∧x.se≤18446744073709551615)
 ow:In8 x.ow
 sl:In8 x.sl
 bu:In8 x.bu
 lf:In64 x.lf
 nu:In64 x.nu
 de:In64 x.de
theorem aCx(l:List Of):∀u∈aAa l,u.oneCell'=true:=by
 intro u hu;unfold aAa at hu;obtain⟨x,_,hx⟩:=List.mem_flatMap.1 hu;simp[Of.vals]at hx;rcases hx with rfl|rfl|rfl|rfl|rfl|rfl|rfl <;> rfl
theorem aI5:(Tryz.prog.info? 76).map (fun i=>(i.zero,i.size,i.bytes))=some (some (Of.val ⟨0,0,0,0,0,0,0⟩),7,40):=by kernel_rfl
theorem aDg(w:World){ops:Array Oper}{rest:List Oper}{o:Oper}{a:Act}{Q:Exit→Act→World→Prop}(hgd:o.guard=none)(s x:Operand)
  (ho:o.op=.call { callee:=.builtin .append,args:=#[s,x],argTypes:=#[23,23] })(base:Nat)(v:Value)(ls:List Of)(hs:a.eval s=v)
  (hown:w.ownsRow base 76 7 v ls.length (aAa ls))(g c:Nat)(y:Of)(hx:a.eval x=.slice (some ⟨g,0,none⟩) 1 c)(hy:Blk w g #[.int .u64 y.se,.int .u8 y.ow,.int .u8 y.sl,.int .u8 y.bu,.int .i64 y.lf,.int .i64 y.nu,.int .i64 y.de] 76)(hlen:ls.length≤100000)(hbase:base≤w.heap.size)
  (h:∀v' w',w'.ownsRow base 76 7 v' (ls++[y]).length (aAa (ls++[y]))→w.grownBy w' v.ownBlock→wpList Tryz.prog ops Q rest (a.put o.dst v') w'):wpList Tryz.prog ops Q (o::rest) a w:=by
 obtain⟨i0,hi,hz0,hz1,hz2⟩:=info_parts aI5;refine wpList_append_own w hgd s x 23 ho base 76 i0 (Of.val ⟨0,0,0,0,0,0,0⟩) 7 40 Tryz.underlying23 hi hz0 hz1 hz2 rfl (by decide) v ls.length (aAa ls) hs hown ⟨g,0,none⟩ 1 c y.vals hx rfl ?_ ?_ (by unfold maxLen;omega) (by omega) hbase ?_
 ·intro j u hj;have:=hy.cell j;rw[Go.WideShapes.add_plain]
  match j,hj with
  | 0,hj=>simp[Of.vals]at hj;subst hj;simpa using this
  | 1,hj=>simp[Of.vals]at hj;subst hj;simpa using this
  | 2,hj=>simp[Of.vals]at hj;subst hj;simpa using this
  | 3,hj=>simp[Of.vals]at hj;subst hj;simpa using this
  | 4,hj=>simp[Of.vals]at hj;subst hj;simpa using this
  | 5,hj=>simp[Of.vals]at hj;subst hj;simpa using this
  | 6,hj=>simp[Of.vals]at hj;subst hj;simpa using this
  | j+7,hj=>simp[Of.vals]at hj
 ·intro u hu;simp[Of.vals]at hu;rcases hu with rfl|rfl|rfl|rfl|rfl|rfl|rfl <;> rfl
 intro v' w' h1 h2 _;refine h v' w' ?_ h2;rw[aAv,aFy,List.length_append];exact h1
theorem of_parts(x y:Of):(x=y)∨(x≠y∧(x.se==y.se)=false)∨(x≠y∧(x.se==y.se)=true∧(x.ow==y.ow)=false)∨(x≠y∧(x.se==y.se)=true∧(x.ow==y.ow)=true∧(x.sl==y.sl)=false)∨(x≠y∧(x.se==y.se)=true∧(x.ow==y.ow)=true∧(x.sl==y.sl)=true∧(x.bu==y.bu)=false)∨(x≠y∧(x.se==y.se)=true∧(x.ow==y.ow)=true∧(x.sl==y.sl)=true∧(x.bu==y.bu)=true∧(x.lf==y.lf)=false)∨(x≠y∧(x.se==y.se)=true∧(x.ow==y.ow)=true∧(x.sl==y.sl)=true∧(x.bu==y.bu)=true∧(x.lf==y.lf)=true∧(x.nu==y.nu)=false)∨(x≠y∧(x.se==y.se)=true∧(x.ow==y.ow)=true∧(x.sl==y.sl)=true∧(x.bu==y.bu)=true∧(x.lf==y.lf)=true∧(x.nu==y.nu)=true∧(x.de==y.de)=false):=by
 obtain⟨a0,a1,a2,a3,a4,a5,a6⟩:=x;obtain⟨b0,b1,b2,b3,b4,b5,b6⟩:=y
 by_cases h0:a0=b0
 case neg=>simp[h0]
 by_cases h1:a1=b1
 case neg=>simp[h0,h1]
 by_cases h2:a2=b2
 case neg=>simp[h0,h1,h2]
 by_cases h3:a3=b3
 case neg=>simp[h0,h1,h2,h3]
 by_cases h4:a4=b4
 case neg=>simp[h0,h1,h2,h3,h4]
 by_cases h5:a5=b5
 case neg=>simp[h0,h1,h2,h3,h4,h5]
 by_cases h6:a6=b6
 case neg=>simp[h0,h1,h2,h3,h4,h5,h6]
 simp[h0,h1,h2,h3,h4,h5,h6]
theorem sameOf_any{w:World}{va vb:Value}{la lb:List Of}(ha:aDb w va 7 la.length (aAa la))(hb:aDb w vb 7 lb.length (aAa lb)):
  Calls Tryz.prog 58 #[va,vb] w (yR w (.bool (decide (la=lb)))):=by
 obtain⟨ao,ca,rfl,a1,a2,a3⟩:=ha;obtain⟨bo,cb,rfl,b1,b2,b3⟩:=hb;have HA:=yH a3;have HB:=yH b3;clear a2 a3 b2 b3
 by_cases hlen:la.length=lb.length
 ·have L:=yH hlen;have hll:lb.length=la.length:=hlen.symm;rw[hll];clear hll hlen b1;go_enter Tryz.func58,Tryz.ntmps58;go_wp2
  go_loopw [5] (fun i wr=>∃k:Nat,k≤la.length∧i=.int .i64 k∧Hid (la.take k=lb.take k)∧Below w.heap.size w wr) (fun i _=>la.length - (intOf i).toNat)
  case atStart=>exact⟨0,Nat.zero_le _,rfl,yH (by simp),yZ⟩
  obtain⟨k,hk,rfl,ht,hbl⟩:=hrel;have BL:=yH hbl
  by_cases hkl:k<la.length
  ·have hkb:k<lb.length:=by have:=L.out;omega
   obtain⟨b1,o1,rfl,hlt1,hc1⟩:=HA.out (by omega);obtain⟨b2,o2,rfl,hlt2,hc2⟩:=HB.out (by omega);have HC1:=yH (fun j (hj:j<la.length*7)=>(hbl.cell (p:=⟨b1,o1+j,none⟩) hlt1).trans (hc1 j hj));have HC2:=yH (fun j (hj:j<lb.length*7)=>(hbl.cell (p:=⟨b2,o2+j,none⟩) hlt2).trans (hc2 j hj))
   have d0:wr.cell? ⟨b1,o1+k*7,none⟩=some (.int .u64 la[k].se):=by
    have q1:=HC1.out (k*7+0) (by omega);rw[aAp la k 0 (by omega) hkl]at q1
    first|exact q1|(rw[←Nat.add_assoc]at q1;exact q1)
   have d1:wr.cell? ⟨b1,o1+k*7+1,none⟩=some (.int .u8 la[k].ow):=by
    have q1:=HC1.out (k*7+1) (by omega);rw[aAp la k 1 (by omega) hkl]at q1
    first|exact q1|(rw[←Nat.add_assoc]at q1;exact q1)
   have d2:wr.cell? ⟨b1,o1+k*7+2,none⟩=some (.int .u8 la[k].sl):=by
    have q1:=HC1.out (k*7+2) (by omega);rw[aAp la k 2 (by omega) hkl]at q1
    first|exact q1|(rw[←Nat.add_assoc]at q1;exact q1)
   have d3:wr.cell? ⟨b1,o1+k*7+3,none⟩=some (.int .u8 la[k].bu):=by
    have q1:=HC1.out (k*7+3) (by omega);rw[aAp la k 3 (by omega) hkl]at q1
    first|exact q1|(rw[←Nat.add_assoc]at q1;exact q1)
   have d4:wr.cell? ⟨b1,o1+k*7+4,none⟩=some (.int .i64 la[k].lf):=by
    have q1:=HC1.out (k*7+4) (by omega);rw[aAp la k 4 (by omega) hkl]at q1
    first|exact q1|(rw[←Nat.add_assoc]at q1;exact q1)
   have d5:wr.cell? ⟨b1,o1+k*7+5,none⟩=some (.int .i64 la[k].nu):=by
    have q1:=HC1.out (k*7+5) (by omega);rw[aAp la k 5 (by omega) hkl]at q1
    first|exact q1|(rw[←Nat.add_assoc]at q1;exact q1)
   have d6:wr.cell? ⟨b1,o1+k*7+6,none⟩=some (.int .i64 la[k].de):=by
    have q1:=HC1.out (k*7+6) (by omega);rw[aAp la k 6 (by omega) hkl]at q1
    first|exact q1|(rw[←Nat.add_assoc]at q1;exact q1)
   have f0:wr.cell? ⟨b2,o2+k*7,none⟩=some (.int .u64 lb[k].se):=by
    have q1:=HC2.out (k*7+0) (by omega);rw[aAp lb k 0 (by omega) hkb]at q1
    first|exact q1|(rw[←Nat.add_assoc]at q1;exact q1)
   have f1:wr.cell? ⟨b2,o2+k*7+1,none⟩=some (.int .u8 lb[k].ow):=by
    have q1:=HC2.out (k*7+1) (by omega);rw[aAp lb k 1 (by omega) hkb]at q1
    first|exact q1|(rw[←Nat.add_assoc]at q1;exact q1)
   have f2:wr.cell? ⟨b2,o2+k*7+2,none⟩=some (.int .u8 lb[k].sl):=by
    have q1:=HC2.out (k*7+2) (by omega);rw[aAp lb k 2 (by omega) hkb]at q1
    first|exact q1|(rw[←Nat.add_assoc]at q1;exact q1)
   have f3:wr.cell? ⟨b2,o2+k*7+3,none⟩=some (.int .u8 lb[k].bu):=by
    have q1:=HC2.out (k*7+3) (by omega);rw[aAp lb k 3 (by omega) hkb]at q1
    first|exact q1|(rw[←Nat.add_assoc]at q1;exact q1)
   have f4:wr.cell? ⟨b2,o2+k*7+4,none⟩=some (.int .i64 lb[k].lf):=by
    have q1:=HC2.out (k*7+4) (by omega);rw[aAp lb k 4 (by omega) hkb]at q1
    first|exact q1|(rw[←Nat.add_assoc]at q1;exact q1)
   have f5:wr.cell? ⟨b2,o2+k*7+5,none⟩=some (.int .i64 lb[k].nu):=by
    have q1:=HC2.out (k*7+5) (by omega);rw[aAp lb k 5 (by omega) hkb]at q1
    first|exact q1|(rw[←Nat.add_assoc]at q1;exact q1)
   have f6:wr.cell? ⟨b2,o2+k*7+6,none⟩=some (.int .i64 lb[k].de):=by
    have q1:=HC2.out (k*7+6) (by omega);rw[aAp lb k 6 (by omega) hkb]at q1
    first|exact q1|(rw[←Nat.add_assoc]at q1;exact q1)
   have hz1:b1<wr.heap.size:=yM hlt1 hbl.size;have hz2:b2<wr.heap.size:=yM hlt2 hbl.size
   have NE:=yH (fun(he:la[k]≠lb[k])=>show decide (la=lb)=false by
    rw[decide_eq_false_iff_not];rintro rfl;exact he rfl)
   have EQ:=yH (fun(he:la[k]=lb[k])=>aGf hkl hkb ht.out he);clear hc1 hc2 HC1 HC2 hbl;generalize la[k]=x at *;generalize lb[k]=y at *;rcases of_parts x y with rfl|⟨he,s0⟩|⟨he,s0,s1⟩|⟨he,s0,s1,s2⟩|⟨he,s0,s1,s2,s3⟩|⟨he,s0,s1,s2,s3,s4⟩|⟨he,s0,s1,s2,s3,s4,s5⟩|⟨he,s0,s1,s2,s3,s4,s5,s6⟩
   ·clear NE;go_wp2
    go_region
    all_goals
     go_wp2;go_roundw
     case rel=>exact⟨k+1,by omega,by go_num,yH (EQ.out (by first|exact rfl|trivial)),by first|exact BL.out.drew|exact BL.out⟩
     case measure=>simp[intOf];omega
   ·have E:=yH (NE.out he);clear he NE EQ;go_wp2
    go_region
    all_goals
     go_wp2;go_ret;exact⟨by rw[E.out];rfl,by first|exact BL.out.drew|exact BL.out⟩
   ·have E:=yH (NE.out he);clear he NE EQ;go_wp2
    go_region
    all_goals
     go_wp2;go_ret;exact⟨by rw[E.out];rfl,by first|exact BL.out.drew|exact BL.out⟩
   ·have E:=yH (NE.out he);clear he NE EQ;go_wp2
    go_region
    all_goals
     go_wp2;go_ret;exact⟨by rw[E.out];rfl,by first|exact BL.out.drew|exact BL.out⟩
   ·have E:=yH (NE.out he);clear he NE EQ;go_wp2
    go_region
    all_goals
     go_wp2;go_ret;exact⟨by rw[E.out];rfl,by first|exact BL.out.drew|exact BL.out⟩
   ·have E:=yH (NE.out he);clear he NE EQ;go_wp2
    go_region
    all_goals
     go_wp2;go_ret;exact⟨by rw[E.out];rfl,by first|exact BL.out.drew|exact BL.out⟩
   ·have E:=yH (NE.out he);clear he NE EQ;go_wp2
    go_region
    all_goals
     go_wp2;go_ret;exact⟨by rw[E.out];rfl,by first|exact BL.out.drew|exact BL.out⟩
   have E:=yH (NE.out he);clear he NE EQ;go_wp2
   go_region
   all_goals
    go_wp2;go_ret;exact⟨by rw[E.out];rfl,by first|exact BL.out.drew|exact BL.out⟩
  have E:=yH (show decide (la=lb)=true by
   have h1:=ht.out;rw[List.take_of_length_le (by omega),List.take_of_length_le (by have:=L.out;omega)]at h1;rw[decide_eq_true_eq];exact h1)
  go_wp2;go_ret;exact⟨by rw[E.out];rfl,BL.out⟩
 have E:=yH (show decide (la=lb)=false by rw[decide_eq_false_iff_not];rintro rfl;exact hlen rfl);have q:((la.length:Int)==(lb.length:Int))=false:=by simp;omega
 clear hlen;go_enter Tryz.func58,Tryz.ntmps58;go_wp2;go_ret;exact⟨by rw[E.out];rfl,yZ⟩
theorem aMa{w:World}{va vb:Value}{la lb:List Of}(ha:aDb w va 7 la.length (aAa la))(hb:aDb w vb 7 lb.length (aAa lb)):
  Calls Tryz.prog 22 #[va,vb] w (yR w (.bool (decide (la=lb)))):=by
 have C:=yH (sameOf_any ha hb);clear ha hb;generalize decide (la=lb)=r at *;go_enter Tryz.func22,Tryz.ntmps22;go_wp2_with fail;refine C.out.mono ?_;rintro e w1 ⟨rfl,b1⟩;go_wp2_with fail;go_ret;exact⟨rfl,b1⟩
end Go.Proofs.YtojbmnbphdcjfaaGreat
