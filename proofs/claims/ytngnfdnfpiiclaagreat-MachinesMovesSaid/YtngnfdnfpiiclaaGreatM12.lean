/- Pieces of one proof. -/
import Derived.Test.YtngnfdnfpiiclaaGreatM11
import Derived.Shelf.Abstract
set_option linter.all false
set_option maxHeartbeats 64000000
set_option maxRecDepth 100000
namespace Go.Proofs.YtngnfdnfpiiclaaGreat
open Go.RowKit
theorem aB4.row{w w':World}{ao:Option Addr}{n cap size:Nat}{xs:List Value}(h:aB4 w (.slice ao n cap) size n xs)(q:Below w.heap.size w w'){k:Nat}(hk:k<n)(hs:0<size):∃b off,ao=some ⟨b,off,none⟩∧b<w'.heap.size∧∀j,j<size→w'.cell? ⟨b,off+k*size+j,none⟩=xs[k*size+j]? := by
 obtain⟨ao',cap',e,_,_,h4⟩:=h
 cases e
 obtain⟨b,off,rfl,hb,hc⟩:=h4 zQ;refine⟨b,off,rfl,yM hb q.size,fun j hj=>?_⟩
 have hlt:k*size+j<n*size:=by
  have:(k+1)*size≤n*size:=Nat.mul_le_mul_right _ hk;rw[Nat.add_mul]at this;omega
 rw[show off+k*size+j=off+(k*size+j) by omega];exact(q.cell (p:=⟨b,off+(k*size+j),none⟩) hb).trans (hc _ hlt)
theorem aB4.shape{w:World}{v:Value}{n size:Nat}{xs:List Value}(h:aB4 w v size n xs):∃ao cap,v=.slice ao n cap:=by
 obtain⟨ao,cap,e,_⟩:=h;exact⟨ao,cap,e⟩
def StAt(W:World)(ls:List Ln)(p c:Int)(v i:Value)(wr:World):Prop:=∃k:Nat,k≤ls.length∧i=.int .i64 k∧v=.int .i64 ((ls.take k).map (aBb p c)).sum∧Below W.heap.size W wr
theorem aEu{w:World}{σ:Hs}{vp vl vo:Value}(h:aDv w σ vp vl vo)(hi:LInv σ.ps σ.ls)(p c:Int):
  Calls Tryz.prog 40 #[.agg #[vp,vl,vo,.int .u64 σ.N],.int .u8 p,.int .u8 c] w (yR w (.int .i64 (posL σ.ls p c))):=by
 have b1:=(Below.refl w.heap.size w).alloc yL (.cells #[vp,vl,vo,.int .u64 σ.N] 46);have KX:=yH (Blk.new w #[vp,vl,vo,.int .u64 σ.N] 46);have B1:=yH b1;have HL:=yH (h.l.below b1);have HG:=yH hi.inv.good;have hlen:Hid (σ.ls.length≤64):=yH hi.len;clear h hi b1;obtain⟨N,hN⟩:∃N,σ.N=N:=⟨_,rfl⟩;rw[hN]at KX B1 HL ⊢;clear hN;generalize σ.ls=ls at *;obtain⟨lo,lc,rfl⟩:=HL.o.shape;go_enter Tryz.func40,Tryz.ntmps40
 go_upto_region 1 with fail
 generalize w.alloc (.cells #[vp,.slice lo ls.length lc,vo,.int .u64 N] 46)=W at *;go_wp2_with fail
 go_loopw [7,8] (StAt W ls p c) (fun _ i _=>ls.length - (intOf i).toNat)
 case atStart=>exact⟨0,Nat.zero_le _,rfl,rfl,yZ⟩
 obtain⟨k,hk,rfl,rfl,hb⟩:=hrel;have hbd:=sum_le (aBb p c) 1099511627776 (ls.take k) (fun x hx=>aO4 (HG.o x (List.mem_of_mem_take hx)) p c);have hlk:(ls.take k).length≤64:=by rw[List.length_take];have:=hlen.out;omega
 have hb1:-109951162777600≤((ls.take k).map (aBb p c)).sum:=zQ
 have hb2:((ls.take k).map (aBb p c)).sum≤109951162777600:=zQ
 have KX1:=yB KX hb;have x1:=KX1.o.cell 1;simp at x1;have BW:=yH hb;have hl64:=hlen.out;clear hbd hlk
 by_cases hkl:k<ls.length
 ·have hki:(k:Int)<(ls.length:Int):=zQ
  have hk0:(0:Int)≤(k:Int):=zQ
  have HN:=yH (sum_next (aBb p c) ls k hkl);obtain⟨b,off,rfl,hbl,hc⟩:=HL.o.row hb hkl zX;have e0:=(hc 0 zX).trans (aAu ls k 0 zX hkl);have e1:=(hc 1 zX).trans (aAu ls k 1 zX hkl);have e2:=(hc 2 zX).trans (aAu ls k 2 zX hkl);have e3:=(hc 3 zX).trans (aAu ls k 3 zX hkl);have e4:=(hc 4 zX).trans (aAu ls k 4 zX hkl);have hgd:=HG.o ls[k] (List.getElem_mem hkl);have hdb:=hgd.db;have hli:=hgd.li;have HK:=yH hkl;clear hc hgd hb hk;generalize ls[k]=y at *;simp[Ln.vals]at e0 e1 e2 e3 e4;generalize ((ls.take k).map (aBb p c)).sum=s at *;have KY:=yH (show Blk ((wr.alloc (.cells #[.int .u8 0,.int .u8 0,.int .u8 0,.int .i64 0,.int .i64 0] 71)).setRow wr.heap.size #[.int .u8 y.cr,.int .u8 y.de,.int .u8 y.cu,.int .i64 y.li,.int .i64 y.db]) wr.heap.size _ 71 from setRow_heap _ _ _ _ _ (0,0) (Blk.new wr _ _));have BY:=yH (below_setRow ((Below.refl wr.heap.size wr).alloc yL (.cells #[.int .u8 0,.int .u8 0,.int .u8 0,.int .i64 0,.int .i64 0] 71)) (Nat.le_refl wr.heap.size) #[.int .u8 y.cr,.int .u8 y.de,.int .u8 y.cu,.int .i64 y.li,.int .i64 y.db]);clear hkl
  go_upto_region 6 with(refine aAa rfl 71 (.tmp 9) (.tmp 21) rfl wr.heap.size #[.int .u8 y.cr,.int .u8 y.de,.int .u8 y.cu,.int .i64 y.li,.int .i64 y.db] rfl rfl 71 _ (Blk.new wr #[.int .u8 0,.int .u8 0,.int .u8 0,.int .i64 0,.int .i64 0] 71).out zW rfl zK ?_)
  generalize (wr.alloc (.cells #[.int .u8 0,.int .u8 0,.int .u8 0,.int .i64 0,.int .i64 0] 71)).setRow wr.heap.size #[.int .u8 y.cr,.int .u8 y.de,.int .u8 y.cu,.int .i64 y.li,.int .i64 y.db]=w4 at *;have y0:=KY.o.cell 0;have y1:=KY.o.cell 1;have y2:=KY.o.cell 2;have y4:=KY.o.cell 4;simp at y0 y1 y2 y4;have B4:=yH (andB BW.o BY.o);clear e0 e1 e2 e3 e4 x1 BY BW
  have hs:((y.cu==c)=false∧aBb p c y=0)∨((y.cu==c)=true∧(y.cr==p)=true∧(y.de==p)=true∧aBb p c y=y.db - y.db)∨((y.cu==c)=true∧(y.cr==p)=true∧(y.de==p)=false∧aBb p c y=y.db)∨((y.cu==c)=true∧(y.cr==p)=false∧(y.de==p)=true∧aBb p c y = -y.db)∨((y.cu==c)=true∧(y.cr==p)=false∧(y.de==p)=false∧aBb p c y=0):=by
   unfold aBb
   by_cases h1:y.cu=c <;> by_cases h2:y.cr=p <;> by_cases h3:y.de=p <;> simp[h1,h2,h3]
  rcases hs with⟨h1,hv⟩|⟨h1,h2,h3,hv⟩|⟨h1,h2,h3,hv⟩|⟨h1,h2,h3,hv⟩|⟨h1,h2,h3,hv⟩
  all_goals
   have V:=yH hv;clear hv;go_wp2_with fail;exact⟨⟨k+1,zQ,by go_num,by rw[HN.o,V.o] <;> first|done|go_num|(congr 1;omega),B4.o⟩,zN⟩
 have hkn:k=ls.length:=zQ
 subst hkn;clear hkl hk hb;go_wp2_with fail;go_ret;exact⟨by rw[List.take_length];rfl,B1.o.trans (BW.o.mono B1.o.size)⟩
theorem HInv.parties{σ:Hs}(hi:HInv σ):σ.ps.length≤16:=by
 have h1:=aPx hi.li.bd hi.li.rise;rw[←h1];unfold aC0;exact Nat.le_trans (List.length_filter_le _ _) zV
def SdAt(W:World)(n:Nat)(i:Value)(wr:World):Prop:=∃k:Nat,k≤n∧i=.int .i64 k∧Below W.heap.size W wr
theorem Sound_any{w:World}{σ:Hs}{vp vl vo:Value}(h:aDv w σ vp vl vo)(hi:HInv σ):
  Calls Tryz.prog 39 #[.agg #[vp,vl,vo,.int .u64 σ.N]] w (yR w (.bool true)):=by
 have b1:=(Below.refl w.heap.size w).alloc yL (.cells #[vp,vl,vo,.int .u64 σ.N] 46);have KX:=yH (Blk.new w #[vp,vl,vo,.int .u64 σ.N] 46);have B1:=yH b1;have HL:=yH (h.l.below b1);have HO:=yH (h.o.below b1);have HP:=yH (h.p.below b1);have HG:=yH hi.li.inv.good;have HB:=yH hi.bi;have hlen:Hid (σ.ls.length≤64∧σ.l.length≤32∧σ.ps.length≤16):=yH ⟨hi.li.len,hi.bi.len,hi.parties⟩;clear h hi b1;obtain⟨ps,ls,l,N⟩:=σ;dsimp only at *;obtain⟨lo,lc,rfl⟩:=HL.o.shape;obtain⟨oo,oc,rfl⟩:=HO.o.shape;obtain⟨po,pc,rfl⟩:=HP.o.shape;go_enter Tryz.func39,Tryz.ntmps39
 go_upto_region 1 with fail
 generalize w.alloc (.cells #[.slice po ps.length pc,.slice lo ls.length lc,.slice oo l.length oc,.int .u64 N] 46)=W at *;go_wp2_with fail
 go_loopw [3] (SdAt W ls.length) (fun i _=>ls.length - (intOf i).toNat)
 case atStart=>exact⟨0,Nat.zero_le _,rfl,yZ⟩
 obtain⟨k,hk,rfl,hb⟩:=hrel;have KX1:=yB KX hb;have x1:=KX1.o.cell 1;simp at x1;have BW:=yH hb;have hl64:=hlen.out.1
 by_cases hkl:k<ls.length
 ·have hki:(k:Int)<(ls.length:Int):=zQ
  have hk0:(0:Int)≤(k:Int):=zQ
  obtain⟨b,off,rfl,hbl,hc⟩:=HL.o.row hb hkl zX;have e3:=(hc 3 zX).trans (aAu ls k 3 zX hkl);have e4:=(hc 4 zX).trans (aAu ls k 4 zX hkl);have hgd:=HG.o ls[k] (List.getElem_mem hkl);have HK:=yH hkl;have g1:=hgd.db;have g2:=hgd.li;clear hc hb hk hgd;generalize ls[k]=y at *;simp[Ln.vals]at e3 e4;have r1:decide (y.db<0)=false:=zU
  have r2:decide (y.li<y.db)=false:=zU
  have r3:decide (y.li<1)=false:=zU
  have r4:decide (1099511627776<y.li)=false:=zU
  clear hkl g1 g2;go_wp2_with fail
  go_quiet (fail)
  have BQ:=yH (below_drewN BW.o nq);go_wp2_with fail;exact⟨⟨k+1,zQ,by go_num,BQ.o⟩,zN⟩
 have hkn:k=ls.length:=zQ
 subst hkn;clear hkl hk hb;go_wp2_with fail
 go_loopw [4] (SdAt W l.length) (fun i _=>l.length - (intOf i).toNat)
 case atStart=>exact⟨0,Nat.zero_le _,rfl,BW.o⟩
 obtain⟨k,hk,rfl,hb⟩:=hrel;have KX2:=yB KX hb;have z0:=KX2.o.cell 0;have z1:=KX2.o.cell 1;have z2:=KX2.o.cell 2;have z3:=KX2.o.cell 3;simp at z0 z1 z2 z3;have BW2:=yH hb;have hl32:=hlen.out.2.1;have hl16:=hlen.out.2.2;clear x1
 by_cases hkl:k<l.length
 ·have hki:(k:Int)<(l.length:Int):=zQ
  have hk0:(0:Int)≤(k:Int):=zQ
  obtain⟨b,off,rfl,hbl,hc⟩:=HO.o.row hb hkl zX;have e0:=(hc 0 zX).trans (aAe l k 0 zX hkl);have e4:=(hc 4 zX).trans (aAe l k 4 zX hkl);have hm:=HB.o.may l[k] (List.getElem_mem hkl);have hd:=HB.o.bd l[k] (List.getElem_mem hkl);have HK:=yH hkl;have g1:=hm.2.2.2.2.1;clear hc hb hk hm;generalize l[k]=y at *;simp[Of.vals]at e0 e4;have r1:decide (y.lf<1)=false:=zU
  have r2:decide (N≤y.se)=false:=zU
  have r4:decide (1099511627776<y.lf)=false:=zU
  clear hkl g1 hd;go_wp2_with fail
  go_quiet (fail)
  have BQ:=yH (below_drewN BW2.o nq);go_wp2_with fail;exact⟨⟨k+1,zQ,by go_num,BQ.o⟩,zN⟩
 have hkn:k=l.length:=zQ
 subst hkn;have r1:decide ((ls.length:Int)≤64)=true:=zU
 have r2:decide ((l.length:Int)≤32)=true:=zU
 have r3:decide ((ps.length:Int)≤16)=true:=zU
 clear hkl hk hb;go_wp2_with fail;go_ret;exact⟨rfl,B1.o.trans (BW2.o.mono B1.o.size)⟩
def ownO(l:List Of)(s:Int):Int:=((aAs l s).map Of.ow).getD 0
theorem ownO_at{l:List Of}{s:Int}{k:Nat}(hk:k<l.length)(hn:∀x∈l.take k,(x.se==s)=false)(hx:(l[k].se==s)=true):ownO l s=l[k].ow:=by
 unfold ownO;rw[findO_at hk hn hx];rfl
theorem aRx{l:List Of}{s:Int}(hn:∀x∈l,(x.se==s)=false):ownO l s=0:=by
 unfold ownO;rw[aKi hn];rfl
def OwAt(W:World)(l:List Of)(s:Int)(i:Value)(wr:World):Prop:=∃k:Nat,k≤l.length∧i=.int .i64 k∧(∀x∈l.take k,(x.se==s)=false)∧Below W.heap.size W wr
theorem aRy{w:World}{σ:Hs}{vp vl vo:Value}(h:aDv w σ vp vl vo)(hi:HInv σ)(s:Int):
  Calls Tryz.prog 42 #[.agg #[vp,vl,vo,.int .u64 σ.N],.int .u64 s] w (yR w (.int .u8 (ownO σ.l s))):=by
 have b1:=(Below.refl w.heap.size w).alloc yL (.cells #[vp,vl,vo,.int .u64 σ.N] 46);have KX:=yH (Blk.new w #[vp,vl,vo,.int .u64 σ.N] 46);have B1:=yH b1;have HO:=yH (h.o.below b1);have hlen:Hid (σ.l.length≤32):=yH hi.bi.len;clear h hi b1;obtain⟨ps,ls,l,N⟩:=σ;dsimp only at *;obtain⟨oo,oc,rfl⟩:=HO.o.shape;go_enter Tryz.func42,Tryz.ntmps42
 go_upto_region 1 with fail
 generalize w.alloc (.cells #[vp,vl,.slice oo l.length oc,.int .u64 N] 46)=W at *;go_wp2_with fail
 go_loopw [5] (OwAt W l s) (fun i _=>l.length - (intOf i).toNat)
 case atStart=>exact⟨0,Nat.zero_le _,rfl,(fun x hx=>by cases hx),yZ⟩
 obtain⟨k,hk,rfl,hn,hb⟩:=hrel;have KX1:=yB KX hb;have x2:=KX1.o.cell 2;simp at x2;have BW:=yT B1 hb;have B2:=yH hb;have HN:=yH hn;have hl32:=hlen.out
 by_cases hkl:k<l.length
 ·have hki:(k:Int)<(l.length:Int):=zQ
  have hk0:(0:Int)≤(k:Int):=zQ
  obtain⟨b,off,rfl,hbl,hc⟩:=HO.o.row hb hkl zX;have e0:=(hc 0 zX).trans (aAe l k 0 zX hkl);have e1:=(hc 1 zX).trans (aAe l k 1 zX hkl);have HK:=yH hkl;have OA:=yH (ownO_at hkl hn)
  have ON:Hid ((l[k].se==s)=false→∀x∈l.take (k+1),(x.se==s)=false):=yH (fun h x hx=>by
   rw[List.take_succ_eq_append_getElem hkl]at hx;rcases List.mem_append.1 hx with hx|hx
   ·exact hn x hx
   rw[List.mem_singleton]at hx;rw[hx];exact h)
  clear hc hb hk hn;generalize l[k]=y at *;simp[Of.vals]at e0 e1;clear hkl
  cases hy:(y.se==s)with
  | true=>
   have OE:=yH (OA.o hy);go_wp2_with fail;go_ret;exact⟨by rw[OE.o];rfl,BW.o⟩
  | false=>
   have OE:=yH (ON.o hy);go_wp2_with fail;exact⟨⟨k+1,zQ,by go_num,OE.o,B2.o⟩,zN⟩
 have hkn:k=l.length:=zQ
 subst hkn;have OE:=yH (aRx (by have:=hn;rwa [List.take_length]at this));clear hkl hk hb hn;go_wp2_with fail;go_ret;exact⟨by rw[OE.o];rfl,BW.o⟩
def aNh(l was:List Of)(p:Int):Prop:=∃o∈was,o.ow=p∧aBl l o.se<o.lf
def LsAt(W:World)(l was:List Of)(p:Int)(i:Value)(wr:World):Prop:=∃k:Nat,k≤was.length∧i=.int .i64 k∧¬aNh l (was.take k) p∧Below W.heap.size W wr
def LfAt(W:World)(l:List Of)(s:Int)(v i:Value)(wr:World):Prop:=∃k:Nat,k≤l.length∧i=.int .i64 k∧v=.int .i64 (aBl (l.take k) s)∧Below W.heap.size W wr
theorem leftO_next{l:List Of}{N s:Int}(h:BInv l N){k:Nat}(hk:k<l.length):aBl (l.take (k+1)) s=if l[k].se=s then l[k].lf else aBl (l.take k) s:=by
 have hd:∀x∈l.take k,x.se<l[k].se:=fun x hx=>by
  obtain⟨j,hj,rfl⟩:=List.getElem_of_mem hx;rw[List.length_take]at hj;rw[List.getElem_take];exact List.pairwise_iff_getElem.1 h.rise j k zQ hk zQ
 have hap:aAs (l.take (k+1)) s=(aAs (l.take k) s).or (if l[k].se=s then some l[k]else none):=by
  unfold aAs;rw[List.take_succ_eq_append_getElem hk,List.find?_append,List.find?_singleton];simp
 unfold aBl;rw[hap]
 by_cases he:l[k].se=s
 ·have hno:aAs (l.take k) s=none:=aKi fun x hx=>by have:=hd x hx;simp;omega
  rw[hno,if_pos he,if_pos he];rfl
 rw[if_neg he,if_neg he,Option.or_none]
theorem less_any{w:World}{σ τ:Hs}{vp vl vo up ul uo:Value}(h:aDv w σ vp vl vo)(hi:HInv σ)(h2:aDv w τ up ul uo)(hi2:HInv τ)(p:Int):
  Calls Tryz.prog 41 #[.agg #[vp,vl,vo,.int .u64 σ.N],.agg #[up,ul,uo,.int .u64 τ.N],.int .u8 p] w fun e w'=>∃b,e=.returned (.bool b)∧(b=true↔aNh σ.l τ.l p)∧Below w.heap.size w w':=by
 have b1:=(Below.refl w.heap.size w).alloc yL (.cells #[vp,vl,vo,.int .u64 σ.N] 46);have b2:=b1.alloc b1.size (.cells #[up,ul,uo,.int .u64 τ.N] 46);have KX:=yH ((Blk.new w #[vp,vl,vo,.int .u64 σ.N] 46).alloc (.cells #[up,ul,uo,.int .u64 τ.N] 46));have KW:=yH (pAB (w.alloc (.cells #[vp,vl,vo,.int .u64 σ.N] 46)) #[up,ul,uo,.int .u64 τ.N] 46 (g:=w.heap.size+1) zV);have B1:=yH b2;have HO:=yH (h.o.below b2);have HW:=yH (h2.o.below b2);have BI:=yH hi.bi;have hlen:Hid (σ.l.length≤32∧τ.l.length≤32):=yH ⟨hi.bi.len,hi2.bi.len⟩;clear h hi h2 hi2 b1 b2;obtain⟨ps,ls,l,N⟩:=σ;obtain⟨pt,lt,m,Nt⟩:=τ;dsimp only at *;obtain⟨oo,oc,rfl⟩:=HO.o.shape;obtain⟨wo,wc,rfl⟩:=HW.o.shape;go_enter Tryz.func41,Tryz.ntmps41
 go_upto_region 1 with fail
 generalize (w.alloc (.cells #[vp,vl,.slice oo l.length oc,.int .u64 N] 46)).alloc (.cells #[up,ul,.slice wo m.length wc,.int .u64 Nt] 46)=W at *;go_wp2_with fail
 go_loopw [7] (LsAt W l m p) (fun i _=>m.length - (intOf i).toNat)
 case atStart=>exact⟨0,Nat.zero_le _,rfl,(fun⟨x,hx,_⟩=>by cases hx),yZ⟩
 obtain⟨k,hk,rfl,hn,hb⟩:=hrel;have KW1:=yB KW hb;have x2:=KW1.o.cell 2;simp at x2;have BW:=yT B1 hb;have B2:=yH hb;have hl32:=hlen.out.2;have hl31:=hlen.out.1
 by_cases hkl:k<m.length
 ·have hki:(k:Int)<(m.length:Int):=zQ
  have hk0:(0:Int)≤(k:Int):=zQ
  obtain⟨b,off,rfl,hbl,hc⟩:=HW.o.row hb hkl zX;have e0:=(hc 0 zX).trans (aAe m k 0 zX hkl);have e1:=(hc 1 zX).trans (aAe m k 1 zX hkl);have e2:=(hc 2 zX).trans (aAe m k 2 zX hkl);have e3:=(hc 3 zX).trans (aAe m k 3 zX hkl);have e4:=(hc 4 zX).trans (aAe m k 4 zX hkl);have e5:=(hc 5 zX).trans (aAe m k 5 zX hkl);have e6:=(hc 6 zX).trans (aAe m k 6 zX hkl);have HK:=yH hkl
  have LN:Hid (¬(m[k].ow=p∧aBl l m[k].se<m[k].lf)→¬aNh l (m.take (k+1)) p):=yH (fun h ⟨x,hx,hx2⟩=>by
   rw[List.take_succ_eq_append_getElem hkl]at hx;rcases List.mem_append.1 hx with hx|hx
   ·exact hn ⟨x,hx,hx2⟩
   rw[List.mem_singleton]at hx;subst hx;exact h hx2)
  have LY:Hid (m[k].ow=p∧aBl l m[k].se<m[k].lf→aNh l m p):=yH (fun h=>⟨_,List.getElem_mem hkl,h⟩);clear hc hb hk hn;generalize m[k]=y at *;simp[Of.vals]at e0 e1 e2 e3 e4 e5 e6;clear hkl;have KY:=yH (show Blk ((wr.alloc (.cells #[.int .u64 0,.int .u8 0,.int .u8 0,.int .u8 0,.int .i64 0,.int .i64 0,.int .i64 0] 75)).setRow wr.heap.size #[.int .u64 y.se,.int .u8 y.ow,.int .u8 y.sl,.int .u8 y.bu,.int .i64 y.lf,.int .i64 y.nu,.int .i64 y.de]) wr.heap.size _ 75 from setRow_heap _ _ _ _ _ (0,0) (Blk.new wr _ _));have BY:=yH (below_setRow ((Below.refl wr.heap.size wr).alloc yL (.cells #[.int .u64 0,.int .u8 0,.int .u8 0,.int .u8 0,.int .i64 0,.int .i64 0,.int .i64 0] 75)) (Nat.le_refl wr.heap.size) #[.int .u64 y.se,.int .u8 y.ow,.int .u8 y.sl,.int .u8 y.bu,.int .i64 y.lf,.int .i64 y.nu,.int .i64 y.de])
  go_upto_region 5 with(refine aAa rfl 75 (.tmp 8) (.tmp 22) rfl wr.heap.size #[.int .u64 y.se,.int .u8 y.ow,.int .u8 y.sl,.int .u8 y.bu,.int .i64 y.lf,.int .i64 y.nu,.int .i64 y.de] rfl rfl 75 _ (Blk.new wr #[.int .u64 0,.int .u8 0,.int .u8 0,.int .u8 0,.int .i64 0,.int .i64 0,.int .i64 0] 75).out zW rfl zK ?_)
  generalize (wr.alloc (.cells #[.int .u64 0,.int .u8 0,.int .u8 0,.int .u8 0,.int .i64 0,.int .i64 0,.int .i64 0] 75)).setRow wr.heap.size #[.int .u64 y.se,.int .u8 y.ow,.int .u8 y.sl,.int .u8 y.bu,.int .i64 y.lf,.int .i64 y.nu,.int .i64 y.de]=w4 at *;have y0:=KY.o.cell 0;have y1:=KY.o.cell 1;have y4:=KY.o.cell 4;simp at y0 y1 y4;have B4:=yH (andB B2.o BY.o);clear e0 e1 e2 e3 e4 e5 e6 x2 BY B2 BW
  by_cases hp:y.ow=p
  ·have r1:(y.ow != p)=false:=y9
   have HP:=yH hp;clear hp;go_wp2_with fail;clear y0 y1 y4
   go_loopw [9,10] (LfAt w4 l y.se) (fun _ i _=>l.length - (intOf i).toNat)
   case atStart=>exact⟨0,Nat.zero_le _,rfl,rfl,yZ⟩
   obtain⟨j,hj,rfl,rfl,hb⟩:=hrel;have hbs:=yT B4 hb;have HB:=yH hb;have KX2:=KX.o.below hbs.out KX.o.lt;have KY2:=KY.o.below hb KY.o.lt;have y0:=KY2.cell 0;have y4:=KY2.cell 4;simp at y0 y4;have x2:=KX2.cell 2;simp at x2;clear KX2 KY2
   by_cases hjl:j<l.length
   ·have hji:(j:Int)<(l.length:Int):=zQ
    have hj0:(0:Int)≤(j:Int):=zQ
    obtain⟨b2,off2,rfl,hbl2,hc⟩:=HO.o.row hbs.out hjl zX;have e0:=(hc 0 zX).trans (aAe l j 0 zX hjl);have e4:=(hc 4 zX).trans (aAe l j 4 zX hjl);have LX:=yH (leftO_next (s:=y.se) BI.o hjl);have HJ:=yH hjl;clear hc hj hb;generalize l[j]=z at *;simp[Of.vals]at e0 e4;clear hjl
    by_cases hz:z.se=y.se
    ·have r2:(z.se==y.se)=true:=wP
     have LZ:=yH (LX.o.trans (if_pos hz));clear hz;go_wp2_with fail
     go_quiet (fail)
     have BQ:=yH (below_drewN HB.o nq);go_wp2_with fail;exact⟨⟨j+1,zQ,by go_num,by rw[LZ.o],BQ.o⟩,zN⟩
    have r2:(z.se==y.se)=false:=wP
    have LZ:=yH (LX.o.trans (if_neg hz));clear hz;go_wp2_with fail
    go_quiet (fail)
    have BQ:=yH (below_drewN HB.o nq);go_wp2_with fail;exact⟨⟨j+1,zQ,by go_num,by rw[LZ.o],BQ.o⟩,zN⟩
   have hjn:j=l.length:=zQ
   subst hjn;rw[List.take_length];clear hjl hj hb
   by_cases hlt:aBl l y.se<y.lf
   ·have r2:decide (aBl l y.se<y.lf)=true:=v6 hlt
    have LE:=yH (LY.o ⟨HP.o,hlt⟩);clear hlt;go_wp2_with fail;go_ret;exact⟨true,rfl,v6 LE.o,B1.o.trans (hbs.out.mono B1.o.size)⟩
   have r2:decide (aBl l y.se<y.lf)=false:=v6 hlt
   have LE:=yH (LN.o (fun h=>hlt h.2));clear hlt;go_wp2_with fail;exact⟨⟨k+1,zQ,by go_num,LE.o,hbs.out⟩,zN⟩
  have r1:(y.ow != p)=true:=y9
  have HP:=yH (LN.o (fun h=>hp h.1));clear hp;go_wp2_with fail;exact⟨⟨k+1,zQ,by go_num,HP.o,B4.o⟩,zN⟩
 have hkn:k=m.length:=zQ
 subst hkn;have LE:=yH (show ¬aNh l m p by have:=hn;rwa [List.take_length]at this);clear hkl hk hb hn;go_wp2_with fail;go_ret;exact⟨false,rfl,v6 LE.o,BW.o⟩
theorem aNi{ps:List Int}{tk pt get give:Int}(C:SwS→Prop)(hs:∀σ s k,C σ→¬σ.n≤0→aA1 ps σ.ls σ.l tk pt σ.n 1099511627776 (aC5 σ.l get give)=some (s,k)→¬σ.fs.length=64→C (aLj ps tk pt σ s k)):∀(fuel:Nat) {σ:SwS},C σ→C (aB8 ps tk pt get give fuel σ).2
 | fuel,σ,h=>by
  by_cases hn:σ.n≤0
  ·rw[aHv hn];exact h
  cases hf:aA1 ps σ.ls σ.l tk pt σ.n 1099511627776 (aC5 σ.l get give)with
  | none=>rw[aHw hn hf];exact h
  | some sk=>
   obtain⟨s,k⟩:=sk
   by_cases hl:σ.fs.length=64
   ·rw[aHx hn hf hl];exact h
   cases fuel with
   | zero=>
    have e:aB8 ps tk pt get give 0 σ=(13,σ):=by
     unfold aB8;rw[if_neg hn,hf];simp only[];rw[if_neg hl]
    rw[e];exact h
   | succ fuel=>rw[aHy hn hf hl];exact aNi C hs fuel (hs σ s k h hn hf hl)
theorem swapN_ok{ps:List Int}{tk pt get give:Int}:∀(fuel:Nat) {σ:SwS},(aB8 ps tk pt get give fuel σ).1=0→(aB8 ps tk pt get give fuel σ).2.n≤0
 | fuel,σ,h=>by
  by_cases hn:σ.n≤0
  ·rw[aHv hn];exact hn
  cases hf:aA1 ps σ.ls σ.l tk pt σ.n 1099511627776 (aC5 σ.l get give)with
  | none=>rw[aHw hn hf]at h;exact absurd h (by show ¬(11:Int)=0;decide)
  | some sk=>
   obtain⟨s,k⟩:=sk
   by_cases hl:σ.fs.length=64
   ·rw[aHx hn hf hl]at h;exact absurd h (by show ¬(13:Int)=0;decide)
   cases fuel with
   | zero=>
    have e:aB8 ps tk pt get give 0 σ=(13,σ):=by
     unfold aB8;rw[if_neg hn,hf];simp only[];rw[if_neg hl]
    rw[e]at h;exact absurd h (by show ¬(13:Int)=0;decide)
   | succ fuel=>
    rw[aHy hn hf hl]at h ⊢;exact swapN_ok fuel h
structure SwDone(ps:List Int)(ls:List Ln)(l:List Of)(N fr pt get give n most:Int)(σ:SwS):Prop where
 inv:aD3 ps ls l N fr pt get give n σ
 got:(σ.fs.map Fl.got).sum=n
 given:(σ.fs.map Fl.gi).sum≤most
 len:σ.fs.length≤64
 may:aD2 fr pt get give n most
 parts:fr∈ps∧pt∈ps
 is:aB8 ps fr pt get give 64 ⟨ls,l,[],n⟩=(0,σ)
theorem aOw{ps:List Int}{ls:List Ln}{l:List Of}{N fr pt get give n most:Int}{σ:SwS}(hI:LInv ps ls)(hJ:BInv l N)(h:aDu ps ls l fr pt get give n most=(0,σ)):SwDone ps ls l N fr pt get give n most σ:=by
 unfold aDu at h
 by_cases hm:aD2 fr pt get give n most
 ·rw[if_neg (fun q=>q hm)]at h
  by_cases hp:fr∉ps∨pt∉ps
  ·rw[if_pos hp]at h;exact absurd (congrArg Prod.fst h) vZ
  rw[if_neg hp]at h
  by_cases he:(aB8 ps fr pt get give 64 ⟨ls,l,[],n⟩).1≠0
  ·rw[if_pos he]at h;exact absurd (congrArg Prod.fst h) he
  rw[if_neg he]at h;have he:=Decidable.not_not.1 he
  by_cases hg:most<((aB8 ps fr pt get give 64 ⟨ls,l,[],n⟩).2.fs.map Fl.gi).sum
  ·rw[if_pos hg]at h;exact absurd (congrArg Prod.fst h) (by show ¬(12:Int)=0;decide)
  rw[if_neg hg]at h;have hn1:=swapN_ok 64 he;have hinv:=aD3.ends (tk:=fr) (pt:=pt) (get:=get) (give:=give) 64 (aD3.start hI hJ (tk:=fr) (pt:=pt) (get:=get) (give:=give) (n0:=n))
  have hn2:0≤(aB8 ps fr pt get give 64 ⟨ls,l,[],n⟩).2.n∧(aB8 ps fr pt get give 64 ⟨ls,l,[],n⟩).2.fs.length≤64:=by
   have:=aNi (ps:=ps) (tk:=fr) (pt:=pt) (get:=get) (give:=give) (fun σ=>aD3 ps ls l N fr pt get give n σ∧0≤σ.n∧σ.fs.length≤64) (fun σ s k hc hn hf hl=>by
    obtain⟨i1,i2,i3⟩:=hc;obtain⟨a,b,c,⟨o,ho,_,_⟩,d⟩:=i1.step hf;refine⟨d,?_,?_⟩
    ·unfold aLj;rw[ho];show 0≤σ.n - k;omega
    unfold aLj;rw[ho];show(σ.fs++[_]).length≤64;rw[List.length_append,List.length_singleton];omega) 64 (σ:=⟨ls,l,[],n⟩) ⟨aD3.start hI hJ,by have:=hm.2.2.2.2.2.1.1;show 0≤n;omega,zV⟩
   exact this.2
  rw[h]at hn1 hn2 hg hinv;dsimp only at hn1 hn2 hg hinv;refine⟨hinv,?_,by show _≤most;omega,hn2.2,hm,⟨Decidable.not_not.1 fun q=>hp (.inl q),Decidable.not_not.1 fun q=>hp (.inr q)⟩,h⟩;have:=hinv.sum;omega
 rw[if_pos hm]at h;exact absurd (congrArg Prod.fst h) (by show ¬(1:Int)=0;decide)
theorem trust_pos{ps:List Int}{ls:List Ln}(h:LInv ps ls)(a b c n p d:Int):posL (aA7 ps ls a b c n) p d=posL ls p d:=by
 unfold aA7
 by_cases he:aAo ps ls a b c n=0
 ·rw[if_pos he]
  have hs:¬(a<1∨16<a∨b<1∨16<b∨c<1∨8<c∨a=b∨n<0∨1099511627776<n)∧¬n<(lnAt ls a b c).db:=by
   unfold aAo at he;split at he
   ·omega
   split at he
   ·omega
   split at he
   ·omega
   rename_i k1 k2 k3;exact⟨k1,k3⟩
  obtain⟨k1,k3⟩:=hs;have bx:=aEg h.inv.good a b c;have hf:(⟨a,b,c,n,(lnAt ls a b c).db⟩:Ln).Fits:=aJ8 ⟨zQ,zQ⟩ ⟨zQ,zQ⟩ ⟨zQ,zQ⟩ ⟨zQ,zQ⟩ ⟨zQ,zQ⟩
  have e:aBb p d ⟨a,b,c,n,(lnAt ls a b c).db⟩=aBb p d (lnAt ls a b c):=by
   cases hl:aAn ls a b c with
   | none=>rw[aAv hl];unfold aBb noLn;simp
   | some x=>
    obtain⟨_,e1,e2,e3⟩:=aAq hl;rw[aAk hl];unfold aBb;simp only[e1,e2,e3]
  unfold posL;rw[aTc h.inv hf (aBb p d) (aFv p d)];show(ls.map (aBb p d)).sum - aBb p d (lnAt ls a b c)+(if n=0 then 0 else aBb p d ⟨a,b,c,n,(lnAt ls a b c).db⟩)=_;rw[e]
  by_cases hn:n=0
  ·rw[if_pos hn];have h0:(lnAt ls a b c).db=0:=zQ
   have:aBb p d (lnAt ls a b c)=0:=by rw[←e,h0];unfold aBb;simp
   omega
  rw[if_neg hn];omega
 rw[if_neg he]
theorem take_left{l:List Of}{N:Int}(h:BInv l N){s k:Int}{o:Of}(hf:aAs l s=some o)(h1:1≤k)(h2:k≤o.lf):(∀t,aBl (aCe l s k) t≤aBl l t)∧aBl (aCe l s k) s<aBl l s:=by
 constructor
 ·intro t;have h0:=(leftO_bd h t).1
  cases hx:aAs (aCe l s k) t with
  | none=>
       have e:aBl (aCe l s k) t=0:=by unfold aBl;rw[hx]
       omega
  | some x=>
   have e:aBl (aCe l s k) t=x.lf:=by unfold aBl;rw[hx]
   obtain⟨hm,hse⟩:=aB2 hx;rw[aKl h hf h1 h2]at hm;obtain⟨_,y,hy,hor⟩:=aHt hm;have hfy:=aIw h hy;rcases hor with rfl|⟨hs,rfl⟩
   ·have e2:aBl l t=x.lf:=by rw[←hse];unfold aBl;rw[hfy]
    omega
   have e2:aBl l t=y.lf:=by rw[←hse];show aBl l y.se=_;unfold aBl;rw[hfy]
   rw[hs,hf]at hfy
   cases hfy
   rw[e,e2];show o.lf - k≤o.lf;omega
 have e:aBl l s=o.lf:=by unfold aBl;rw[hf]
 have t:=(take_find h hf h1 h2).1
 by_cases hk:k<o.lf
 ·rw[if_pos hk]at t;have e2:aBl (aCe l s k) s=o.lf - k:=by unfold aBl;rw[t]
  omega
 rw[if_neg hk]at t;have e2:aBl (aCe l s k) s=0:=by unfold aBl;rw[t]
 omega
def aP5(l0:List Of)(σ:SwS):Prop:=(∀t,aBl σ.l t≤aBl l0 t)∧∀f∈σ.fs,aBl σ.l f.se<aBl l0 f.se
theorem aP5.next{l0:List Of}{σ υ:SwS}{N s k x:Int}{o:Of}(h:aP5 l0 σ)(hB:BInv σ.l N)(hf:aAs σ.l s=some o)(h1:1≤k)(h2:k≤o.lf)(hl:υ.l=aCe σ.l s k)(hs:υ.fs=σ.fs++[⟨s,k,x⟩]):aP5 l0 υ:=by
 obtain⟨t1,t2⟩:=take_left hB hf h1 h2;refine⟨fun t=>?_,fun f hfm=>?_⟩
 ·rw[hl];exact Int.le_trans (t1 t) (h.1 t)
 rw[hl];rw[hs]at hfm;rcases List.mem_append.1 hfm with hfm|hfm
 ·exact Int.lt_of_le_of_lt (t1 _) (h.2 f hfm)
 rw[List.mem_singleton]at hfm;subst hfm;exact Int.lt_of_lt_of_le t2 (h.1 s)
theorem aP5.owner{l0:List Of}{σ:SwS}(h:aP5 l0 σ){f:Fl}(hf:f∈σ.fs){o:Of}(ho:aAs l0 f.se=some o):aNh σ.l l0 o.ow:=by
 obtain⟨hm,hs⟩:=aB2 ho;refine⟨o,hm,rfl,?_⟩;have e:aBl l0 f.se=o.lf:=by unfold aBl;rw[ho]
 rw[hs,←e];exact h.2 f hf
theorem swap_less{ps:List Int}{ls:List Ln}{l:List Of}{N fr pt get give n most:Int}{σ:SwS}(hI:LInv ps ls)(hJ:BInv l N)(h:SwDone ps ls l N fr pt get give n most σ):aP5 l σ:=by
 have:=aNi (ps:=ps) (tk:=fr) (pt:=pt) (get:=get) (give:=give) (fun τ=>aD3 ps ls l N fr pt get give n τ∧aP5 l τ) (fun τ s k ⟨hi,hl⟩ _ hf _=>by
  obtain⟨h1,_,_,⟨o,ho,_,h2⟩,hn⟩:=hi.step hf;refine⟨hn,hl.next (x:=upN (k*o.nu) o.de) hi.binv ho h1 h2 ?_ ?_⟩ <;> (unfold aLj;rw[ho])) 64 (σ:=⟨ls,l,[],n⟩) ⟨aD3.start hI hJ,fun t=>Int.le_refl _,fun f hf=>by cases hf⟩
 rw[h.is]at this;exact this.2
theorem place_less{ps:List Int}{ls:List Ln}{l:List Of}{N ow sl bu lf nu de:Int}{σ τ:SwS}{N' sq:Int}(hI:LInv ps ls)(hJ:BInv l N)(h:aOn ps ls l N ow sl bu lf nu de σ N' sq τ):aP5 l τ:=by
 have h0:0≤lf:=by have:=h.may.2.2.2.2.1.1;show 0≤lf;exact Int.le_trans zX this
 have:=aKn (ps:=ps) (ow:=ow) (sl:=sl) (bu:=bu) (nu:=nu) (de:=de) (fun τ=>aE6 ps ls l N ow sl bu nu de lf τ∧aP5 l τ) (fun τ s k ⟨hi,hl⟩ _ hf h64=>by
  obtain⟨h1,_,_,o,ho,_,h2,_,_,he,hn⟩:=hi.step hf;refine⟨hn h64,hl.next (x:=upN (k*o.nu) o.de) hi.binv ho h1 h2 ?_ ?_⟩ <;> rw[he]) 64 (σ:=⟨ls,l,[],lf⟩) ⟨aE6.start hI hJ h0,fun t=>Int.le_refl _,fun f hf=>by cases hf⟩
 rw[h.is]at this;exact this.2
theorem aNj{o:Of}{tk pt n x p c:Int}(h1:c≠o.sl)(h2:c≠o.bu):aIe o tk pt n x p c=0:=by
 unfold aIe;simp[h1,h2]
structure aI7(σ τ:Hs)(s:Stp)(g:Gt):Prop where
 pos:∀p c,posL τ.ls p c≠posL σ.ls p c→(s.kd=3∨s.kd=4∨s.kd=5)∧(p=s.a∨(s.kd≠5∧p=s.b)∨(s.kd≠3∧aNh τ.l σ.l p))∧(s.kd=3→c=s.c)∧(c=s.c∨c=s.d)
 pay:s.kd=3→posL τ.ls s.a s.c=posL σ.ls s.a s.c - s.n∧posL τ.ls s.b s.c=posL σ.ls s.b s.c+s.n
 swap:s.kd=4→1≤g.gx∧g.gx≤s.mx∧1≤g.gy∧g.gy≤64
 net:s.kd=7→0≤g.gx∧0≤g.gy∧g.gy≤max s.mx 0
 cancel:s.kd=6→ownO σ.l s.se=s.a∧ownO τ.l s.se=0
theorem sum_ge:∀l:List Fl,(∀f∈l,1≤f.gi)→(l.length:Int)≤(l.map Fl.gi).sum:=by
 intro l
 induction l with
 | nil=>intro _;simp
 | cons x l ih=>
  intro hx;have a:=hx x List.mem_cons_self;have b:=ih (fun y hy=>hx y (List.mem_cons_of_mem _ hy));rw[List.map_cons,List.sum_cons,List.length_cons];omega
theorem pAM{σ τ:Hs}{s:Stp}{g:Gt}(h:∀p c,posL τ.ls p c=posL σ.ls p c)(h3:s.kd≠3)(h4:s.kd≠4)(h6:s.kd≠6)(h7:s.kd≠7):aI7 σ τ s g:=
 ⟨fun p c k=>absurd (h p c) k,fun k=>absurd k h3,fun k=>absurd k h4,fun k=>absurd k h7,fun k=>absurd k h6⟩
theorem moves_pay{σ τ:Hs}{s:Stp}{g:Gt}(hi:HInv σ)(k:s.kd=3)(h:aAx σ s=(τ,g,0)):aI7 σ τ s g:=by
 unfold aAx at h;rw[if_neg zQ,if_neg zQ,if_pos k]at h;simp only[Prod.mk.injEq]at h;obtain⟨rfl,rfl,he⟩:=h;have hR:=aCa (aAz hi.li s.c) s.a s.b s.n
 obtain⟨hm,hg⟩:aDi s.a s.b s.c s.n∧s.n - (aBt (aAw σ.ps σ.ls s.c) s.a s.b s.n).left=s.n:=by
  unfold payE at he;have h0:=hR.left64;rcases aMx (fun p=>decide (p∈σ.ps)) s.a s.b s.c s.n (s.n - (aBt (aAw σ.ps σ.ls s.c) s.a s.b s.n).left)with⟨q,_⟩|⟨q,_⟩|⟨q,_⟩|⟨_,q⟩
  ·omega
  ·omega
  ·omega
  refine⟨q.1,?_⟩;have h2:1≤s.n:=q.1.2.2.2.2.2.1;omega
 have hp:∀p d,posL (aM4 σ.ps σ.ls s.a s.b s.c s.n) p d=posL σ.ls p d+(if d=s.c then(if s.b=p then s.n else 0) - (if s.a=p then s.n else 0)else 0):=fun p d=>by
  unfold aM4 payL;rw[if_pos he];exact aTv hi.li hR hg p d
 refine⟨fun p c hne=>?_,fun _=>?_,fun q=>zQ,fun q=>zQ,fun q=>zQ⟩
 ·change posL (aM4 σ.ps σ.ls s.a s.b s.c s.n) p c≠_ at hne
  rw[hp]at hne
  by_cases hc:c=s.c
  ·refine⟨.inl k,?_,fun _=>hc,.inl hc⟩;rw[if_pos hc]at hne
   by_cases h1:s.b=p
   ·exact .inr (.inl ⟨zQ,h1.symm⟩)
   by_cases h2:s.a=p
   ·exact .inl h2.symm
   rw[if_neg h1,if_neg h2]at hne;omega
  rw[if_neg hc]at hne;omega
 have hab:s.a≠s.b:=hm.2.2.1
 constructor
 ·show posL (aM4 σ.ps σ.ls s.a s.b s.c s.n) s.a s.c=_;rw[hp,if_pos rfl,if_neg (fun e=>hab e.symm),if_pos rfl];omega
 show posL (aM4 σ.ps σ.ls s.a s.b s.c s.n) s.b s.c=_;rw[hp,if_pos rfl,if_pos rfl,if_neg hab];omega
theorem moves_swap{σ τ:Hs}{s:Stp}{g:Gt}(hi:HInv σ)(k:s.kd=4)(h:aAx σ s=(τ,g,0)):aI7 σ τ s g:=by
 unfold aAx at h;rw[if_neg zQ,if_neg zQ,if_neg zQ,if_pos k]at h;obtain⟨r,hr⟩:∃r,aDu σ.ps σ.ls σ.l s.a s.b s.c s.d s.n s.mx=r:=⟨_,rfl⟩;obtain⟨e,υ⟩:=r;rw[hr]at h
 by_cases h0:e=0
 ·subst h0;rw[if_pos rfl]at h;simp only[Prod.mk.injEq]at h;obtain⟨rfl,rfl,_⟩:=h;have hd:=aOw hi.li hi.bi hr;have hl:=swap_less hi.li hi.bi hd;refine⟨fun p c hne=>⟨.inr (.inl k),?_,fun q=>zQ,?_⟩,fun q=>zQ,fun _=>?_,fun q=>zQ,fun q=>zQ⟩
  ·by_cases h1:p=s.a
   ·exact .inl h1
   by_cases h2:p=s.b
   ·exact .inr (.inl ⟨zQ,h2⟩)
   refine .inr (.inr ⟨zQ,?_⟩);refine Classical.byContradiction fun hn=>hne (hd.inv.aside h1 h2 (fun f hf o ho e=>hn ?_) c)
   rw[e];exact hl.owner hf ho
  ·refine Classical.byContradiction fun hn=>hne ?_
   rw[not_or]at hn;show posL υ.ls p c=_;rw[hd.inv.pos p c,aJr υ.fs (fun f hf=>?_)]
   ·omega
   obtain⟨o,ho,e1,e2,_⟩:=hd.inv.fs f hf;unfold flBy;rw[ho];exact aNj (by rw[e1];exact hn.1) (by rw[e2];exact hn.2)
  have h1:=sum_ge υ.fs (fun f hf=>by obtain⟨o,_,_,_,_,_,_,a,_⟩:=hd.inv.fs f hf;exact a);have h2:=hd.given;have h3:=hd.len;have h4:=hd.may.2.2.2.2.2.1.1
  have h5:1≤υ.fs.length:=by
   rcases Nat.eq_zero_or_pos υ.fs.length with q|q
   ·have:=hd.got;rw[List.length_eq_zero_iff.1 q]at this;simp at this;omega
   exact q
  refine⟨?_,h2,?_,?_⟩
  ·show 1≤(υ.fs.map Fl.gi).sum;omega
  ·show(1:Int)≤(υ.fs.length:Int);omega
  show(υ.fs.length:Int)≤64;omega
 rw[if_neg h0]at h;simp only[Prod.mk.injEq]at h;exact absurd h.2.2 h0
theorem aUa{σ τ:Hs}{s:Stp}{g:Gt}(hi:HInv σ)(k:s.kd=5)(h:aAx σ s=(τ,g,0)):aI7 σ τ s g:=by
 unfold aAx at h;rw[if_neg zQ,if_neg zQ,if_neg zQ,if_neg zQ,if_pos k]at h;obtain⟨r,hr⟩:∃r,aBv σ.ps σ.ls σ.l σ.N s.a s.c s.d s.n s.nu s.de=r:=⟨_,rfl⟩;obtain⟨e,υ,N',sq⟩:=r;rw[hr]at h
 by_cases h0:e=0
 ·subst h0;rw[if_pos rfl]at h;simp only[Prod.mk.injEq]at h;obtain⟨rfl,rfl,_⟩:=h;obtain⟨ρ,hd⟩:=aI0 hi.li hi.bi hr;have hl:=place_less hi.li hi.bi hd
  have hs:υ.ls=ρ.ls∧∀p,aNh ρ.l σ.l p→aNh υ.l σ.l p:=by
   rcases hd.ends with⟨_,rfl,_⟩|⟨_,_,_,rfl,_⟩
   ·exact⟨rfl,fun p q=>q⟩
   refine⟨rfl,fun p ⟨o,ho,hp,hlt⟩=>⟨o,ho,hp,?_⟩⟩;have hN:=hi.bi.bd o ho
   have e:aAs (ρ.l++[⟨σ.N,s.a,s.c,s.d,ρ.n,s.nu,s.de⟩]) o.se=aAs ρ.l o.se:=by
    unfold aAs;rw[List.find?_append,List.find?_singleton,if_neg zU,Option.or_none]
   have e2:aBl (ρ.l++[⟨σ.N,s.a,s.c,s.d,ρ.n,s.nu,s.de⟩]) o.se=aBl ρ.l o.se:=by unfold aBl;rw[e]
   show aBl (ρ.l++[⟨σ.N,s.a,s.c,s.d,ρ.n,s.nu,s.de⟩]) o.se<o.lf;rw[e2];exact hlt
  refine⟨fun p c hne=>⟨.inr (.inr k),?_,fun q=>zQ,?_⟩,fun q=>zQ,fun q=>zQ,fun q=>zQ,fun q=>zQ⟩
  ·by_cases h1:p=s.a
   ·exact .inl h1
   refine .inr (.inr ⟨zQ,hs.2 p ?_⟩);refine Classical.byContradiction fun hn=>hne ?_
   show posL υ.ls p c=_;rw[hs.1];refine hd.inv.aside h1 (fun f hf o ho e=>hn ?_) c;rw[e];exact hl.owner hf ho
  refine Classical.byContradiction fun hn=>hne ?_
  rw[not_or]at hn;show posL υ.ls p c=_;rw[hs.1,hd.inv.pos p c,aJr ρ.fs (fun f hf=>?_)]
  ·omega
  obtain⟨o,ho,e1,e2,_⟩:=hd.inv.fs f hf;unfold flBy;rw[ho];exact aNj (by rw[e1];exact hn.2) (by rw[e2];exact hn.1)
 rw[if_neg h0]at h;simp only[Prod.mk.injEq]at h;exact absurd h.2.2 h0
theorem aRz{σ τ:Hs}{s:Stp}{g:Gt}(hi:HInv σ)(k:s.kd=6)(h:aAx σ s=(τ,g,0)):aI7 σ τ s g:=by
 unfold aAx at h;rw[if_neg zQ,if_neg zQ,if_neg zQ,if_neg zQ,if_neg zQ,if_pos k]at h;simp only[Prod.mk.injEq]at h;obtain⟨rfl,rfl,he⟩:=h;refine⟨fun p c q=>absurd rfl q,fun q=>zQ,fun q=>zQ,fun q=>zQ,fun _=>?_⟩;unfold aBx at he
 cases hf:aAs σ.l s.se with
 | none=>rw[hf]at he;exact absurd he vZ
 | some x=>
  rw[hf]at he
  have ho:x.ow=s.a:=by
   refine Classical.byContradiction fun q=>?_
   simp only[]at he;rw[if_neg q]at he;exact absurd he (by show ¬(15:Int)=0;decide)
  refine⟨by unfold ownO;rw[hf];exact ho,?_⟩
  have e:aCs σ.l s.a s.se=setO σ.l s.se 0:=by
   have e0:aBx σ.l s.a s.se=0:=by
    unfold aBx;rw[hf];exact if_pos ho
   unfold aCs;rw[if_pos e0]
  show ownO (aCs σ.l s.a s.se) s.se=0;rw[e];refine aRx fun y hy=>?_
  obtain⟨hp,z,hz,hor⟩:=aHt hy;rcases hor with rfl|⟨_,rfl⟩
  ·unfold setO at hy;obtain⟨hy1,_⟩:=List.mem_filter.1 hy;obtain⟨u,hu,hv⟩:=List.mem_map.1 hy1;unfold Of.put at hv;split at hv
   ·rw[←hv]at hp;exact absurd hp (by show ¬(0:Int)<0;decide)
   rename_i hne;rw[←hv];simpa using hne
  exact absurd hp (by show ¬(0:Int)<0;decide)
theorem moves_net{σ τ:Hs}{s:Stp}{g:Gt}(hi:HInv σ)(k:s.kd=7)(h:aAx σ s=(τ,g,0)):aI7 σ τ s g:=by
 unfold aAx at h;rw[if_neg zQ,if_neg zQ,if_neg zQ,if_neg zQ,if_neg zQ,if_neg zQ,if_pos k]at h;have hn:=aP2 hi.li s.c s.mx;generalize aDd σ.ls s.c s.mx=r at h hn;obtain⟨gone,many,er,ms⟩:=r;simp only[Prod.mk.injEq]at h;obtain⟨rfl,rfl,he⟩:=h
 change er=0 at he
 subst he;obtain⟨_,_,_,q,_⟩|⟨_,h0,L,j,hL,⟨h1,h2,h3,_,h4⟩|⟨_,_,_,q,_⟩⟩:=hn
 ·exact absurd q (by show ¬(0:Int)=1;decide)
 ·have ok:=hL.inv.ok;have eT:=net_tot hi.li s.c ok;have dt:=(aRq hi.li s.c).1;have ds:=hL.inv.sum
  change gone=_ at h2
  change many=_ at h3
  change ms=_ at h4
  subst h2;subst h3;subst h4;refine⟨fun p c q=>absurd (net_pos hi.li s.c ok hL.inv.pos p c) q,fun q=>zQ,fun q=>zQ,fun _=>⟨?_,?_,?_⟩,fun q=>zQ⟩
  ·show 0≤totL σ.ls s.c - totL (ntL σ.ls s.c L) s.c;omega
  ·show(0:Int)≤(j:Int);omega
  show(j:Int)≤max s.mx 0;omega
 exact absurd q (by show ¬(0:Int)=13;decide)
theorem moves_any{σ τ:Hs}{s:Stp}{g:Gt}(hi:HInv σ)(h:aAx σ s=(τ,g,0)):aI7 σ τ s g:=by
 rcases kinds s.kd with k|k|k|k|k|k|k|k|k|k|k|k
 ·refine pAM (fun p c=>?_) zQ zQ zQ zQ;unfold aAx at h;rw[if_pos k]at h;simp only[Prod.mk.injEq]at h;obtain⟨rfl,_⟩:=h;rfl
 ·refine pAM (fun p c=>?_) zQ zQ zQ zQ;unfold aAx at h;rw[if_neg zQ,if_pos k]at h;simp only[Prod.mk.injEq]at h;obtain⟨rfl,_⟩:=h;exact trust_pos hi.li _ _ _ _ p c
 ·exact moves_pay hi k h
 ·exact moves_swap hi k h
 ·exact aUa hi k h
 ·exact aRz hi k h
 ·exact moves_net hi k h
 all_goals
  refine pAM (fun p c=>?_) zQ zQ zQ zQ
  have e:(aAx σ s).1=σ:=by
   unfold aAx;rw[if_neg zQ,if_neg zQ,if_neg zQ,if_neg zQ,if_neg zQ,if_neg zQ,if_neg zQ]
   repeat' (first|rfl|split)
  rw[h]at e;rw[show τ=σ from e]
def CyAt(W:World)(i:Value)(wr:World):Prop:=∃c:Nat,1≤c∧c≤9∧i=.int .u8 c∧Below W.heap.size W wr
def posN(ls:List Ln)(c:Int)(p:Nat):Int:=((List.range p).map fun q:Nat=>posL ls (q:Int) c).sum
def PyAt(W:World)(ls:List Ln)(c:Nat)(s i:Value)(wr:World):Prop:=∃p:Nat,1≤p∧p≤17∧i=.int .u8 p∧s=.int .i64 (posN ls c p)∧Below W.heap.size W wr
theorem aLz{ls:List Ln}(h:∀x∈ls,x.Good){p:Int}(hp:p<1∨16<p)(c:Int):posL ls p c=0:=by
 unfold posL
 have hz:∀l:List Ln,(∀x∈l,x.Good)→(l.map (aBb p c)).sum=0:=by
  intro l
  induction l with
  | nil=>intro _;rfl
  | cons x l ih=>
   intro hx;have g:=hx x List.mem_cons_self;have g1:=g.cr;have g2:=g.de;rw[List.map_cons,List.sum_cons,ih (fun y hy=>hx y (List.mem_cons_of_mem _ hy))];unfold aBb;split <;> (try split) <;> omega
 exact hz ls h
theorem aL0{ps:List Int}{ls:List Ln}(h:LInv ps ls)(p c:Int):-70368744177664≤posL ls p c∧posL ls p c≤70368744177664:=by
 have h1:=sum_le (aBb p c) 1099511627776 ls (fun x hx=>aO4 (h.inv.good x hx) p c);have:=h.len;unfold posL;omega
theorem aFx(ls:List Ln)(c:Int)(p:Nat):posN ls c (p+1)=posN ls c p+posL ls p c:=by
 unfold posN;rw[List.range_succ,List.map_append,List.sum_append];simp
theorem pos_from{ps:List Int}{ls:List Ln}(h:LInv ps ls)(c:Int):posN ls c 1=0∧posN ls c 17=0∧∀p:Nat,p≤17 → -(1200000000000000:Int)≤posN ls c p∧posN ls c p≤1200000000000000:=by
 have z:=pos_zero h.inv.good c
 change posN ls c 20=0 at z
 have o0:=aLz h.inv.good (p:=0) zQ c;have o17:=aLz h.inv.good (p:=17) zQ c;have o18:=aLz h.inv.good (p:=18) zQ c;have o19:=aLz h.inv.good (p:=19) zQ c;have n0:=aFx ls c 0;have n17:=aFx ls c 17;have n18:=aFx ls c 18;have n19:=aFx ls c 19;have e0:posN ls c 0=0:=rfl;refine⟨?_,?_,fun p hp=>?_⟩
 ·rw[n0,e0];simpa using o0
 ·change posN ls c 18=posN ls c 17+posL ls 17 c at n17
  change posN ls c 19=posN ls c 18+posL ls 18 c at n18
  change posN ls c 20=posN ls c 19+posL ls 19 c at n19
  omega
 have key:∀p:Nat,-(70368744177664:Int)*p≤posN ls c p∧posN ls c p≤70368744177664*p:=by
  intro p
  induction p with
  | zero=>rw[e0];simp
  | succ p ih=>
   have:=aL0 h (p:Int) c;rw[aFx];omega
 have:=key p;omega
theorem aUb{Is:World→Nat→Hs→Prop}(HM:aH4 (fun _=>True) Is)(HL:aP4)(a:Option Addr)(len cap:Nat)(cs:List Cm)(kd sa sb sc sd sn sm su se sq:Int)(w:World)(h:SlIn Cm.vals 1 (Cm.In w) w a len cap cs)(hf:Stp.Fits ⟨kd,sa,sb,sc,sd,sn,sm,su,se,sq⟩):
  Calls Tryz.prog 6 #[.slice a len cap,.agg #[.int .u8 kd,.int .u8 sa,.int .u8 sb,.int .u8 sc,.int .u8 sd,.int .i64 sn,.int .i64 sm,.int .i64 su,.int .i64 se,.int .u64 sq]] w (yR w (.bool true)):=by
 have hlen:cs.length=len:=h.2.1;subst hlen;have MP:=yH HM;have LV:=yH HL;have b1:=(Below.refl w.heap.size w).alloc yL (.cells #[.int .u8 kd,.int .u8 sa,.int .u8 sb,.int .u8 sc,.int .u8 sd,.int .i64 sn,.int .i64 sm,.int .i64 su,.int .i64 se,.int .u64 sq] 87);have KX:=yH (Blk.new w #[.int .u8 kd,.int .u8 sa,.int .u8 sb,.int .u8 sc,.int .u8 sd,.int .i64 sn,.int .i64 sm,.int .i64 su,.int .i64 se,.int .u64 sq] 87);have B1:=yH b1;have HS:=yH h;have FS:=yH hf;clear HM HL h hf b1;go_enter Tryz.func6,Tryz.ntmps6
 go_upto_region 1 with fail
 generalize w.alloc (.cells #[.int .u8 kd,.int .u8 sa,.int .u8 sb,.int .u8 sc,.int .u8 sd,.int .i64 sn,.int .i64 sm,.int .i64 su,.int .i64 se,.int .u64 sq] 87)=W at *;have CG:=yH (aT9 (aRw HS.o B1.o));go_wp2_with fail;refine CG.o.mono ?_;rintro e w1 ⟨b,rfl,hb,rfl⟩;have GS:=yH hb;clear CG hb
 cases b with
 | true=>
  go_wp2_with fail;refine(LV.o _).mono ?_;rintro e wl ⟨rfl,bl⟩;go_wp2_with fail;go_ret;exact⟨rfl,andB B1.o bl⟩
 | false=>
  go_wp2_with fail;refine(MP.o.new _).mono ?_;rintro e w2 ⟨g,rfl,hg,hg0,b2⟩;have KX2:=yB KX b2;have B2:=yT B1 b2;have HG:=yH hg;have G0:Hid (w.heap.size+1≤g):=yH (uV KX.o.lt);clear b2 hg hg0 KX B1;go_wp2_with fail
  go_loopw [6] (fun i wr=>CmAt Is w2 g cs i wr) (fun i _=>cs.length - (intOf i).toNat)
  case atStart=>exact⟨0,zQ,rfl,HG.o,Keep.refl _ _⟩
  obtain⟨k,hk,rfl,hi,kk⟩:=hrel;have BR:=yH (B2.o.trans (kk.below B2.o.size (fun j hj e=>uV G0.o)))
  by_cases hkl:k<cs.length
  ·have hki:(k:Int)<(cs.length:Int):=zQ
   have hk0:(0:Int)≤(k:Int):=zQ
   obtain⟨_,_,hin,_,_,hcell⟩:=aRw HS.o BR.o;obtain⟨b,off,rfl,hb,hc⟩:=hcell zQ;have c0:=hc k hkl 0 _ rfl;rw[Nat.mul_one,Nat.add_zero]at c0;have CA:=yH (MP.o.apply hi (atK_inv cs k) cs[k] (hin _ (List.getElem_mem hkl)) (fun _ _=>trivial));have NX:=yH (atK_next cs hkl);have KK:=yH kk;have HK:=yH hkl;have hl:=(GS.o rfl).1;clear hin hc hcell hi kk;generalize cs[k]=y at CA c0 NX;clear hkl;go_wp2_with fail;refine CA.o.mono ?_;rintro e w3 ⟨v,rfl,_,hI,k3⟩;have NI:=yH (NX.o ▸ hI);have K3:=yH (KK.o.trans k3);clear hI k3 c0 CA;go_wp2_with fail;exact⟨⟨k+1,zQ,by go_num,NI.o,K3.o⟩,zN⟩
  have hkn:k=cs.length:=zQ
  subst hkn;have q1:decide (((cs.length:Nat):Int)<(cs.length:Int))=false:=zV
  have SI:=yH (atK_inv cs cs.length);have CS:=yH (MP.o.state hi SI.o);have IG:=yH hi;have K4:=yH kk;generalize atK cs cs.length=σ at SI CS IG;clear hi kk hkl hk;go_wp2_with fail;refine CS.o.mono ?_;rintro e w5 ⟨vp,vl,vo,rfl,tp,tl,tf,b5⟩;have gw:=MP.o.lt IG.o;have hs5:=b5.size;have kx2:=KX2.o.lt;have gx:=G0.o;have KX3:=yH ((KX2.o.keep K4.o zQ).below b5 (yM kx2 K4.o.size))
  go_upto_region 9 with(refine aAa rfl 46 (.tmp 7) (.tmp 33) rfl w5.heap.size #[vp,vl,vo,.int .u64 σ.N] rfl rfl 46 _ (Blk.new w5 #[.slice none 0 0,.slice none 0 0,.slice none 0 0,.int .u64 0] 46).out zW rfl (by first|(simp[Value.oneCell'];done)|(obtain⟨_,_,rfl⟩:=tp.shape;obtain⟨_,_,rfl⟩:=tl.shape;obtain⟨_,_,rfl⟩:=tf.shape;simp[Value.oneCell'])) ?_)
  have b6:Below w5.heap.size w5 ((w5.alloc (.cells #[.slice none 0 0,.slice none 0 0,.slice none 0 0,.int .u64 0] 46)).setRow w5.heap.size #[vp,vl,vo,.int .u64 σ.N]):=below_setRow ((Below.refl w5.heap.size w5).alloc yL (.cells #[.slice none 0 0,.slice none 0 0,.slice none 0 0,.int .u64 0] 46)) yL _;have KW:=yH ((Blk.new w5 #[.slice none 0 0,.slice none 0 0,.slice none 0 0,.int .u64 0] 46).row (cs:=#[vp,vl,vo,.int .u64 σ.N]));generalize (w5.alloc (.cells #[.slice none 0 0,.slice none 0 0,.slice none 0 0,.int .u64 0] 46)).setRow w5.heap.size #[vp,vl,vo,.int .u64 σ.N]=w6 at *;have b56:=b5.trans (b6.mono hs5);have TP:=yH (tp.below b6);have TL:=yH (tl.below b6);have TF:=yH (tf.below b6);have KX6:=yB KX3 b6;have IG6:=yH (MP.o.below IG.o b56);have B6:=yT BR b56;have GW:Hid (w.heap.size<g∧g<wr.heap.size∧wr.heap.size≤w5.heap.size∧w5.heap.size<w6.heap.size):=yH ⟨zQ,gw,hs5,KW.o.lt⟩;clear tp tl tf b5 b6 b56 hs5 kx2 gw gx KX3 CS IG K4 BR KX2 B2 HG HS GS G0 q1;have x0:=KX6.o.cell 0;have x1:=KX6.o.cell 1;have x2:=KX6.o.cell 2;have x3:=KX6.o.cell 3;have x4:=KX6.o.cell 4;have x5:=KX6.o.cell 5;have x6:=KX6.o.cell 6;have x7:=KX6.o.cell 7;have x8:=KX6.o.cell 8;have x9:=KX6.o.cell 9;have xl:=KX6.o.lt;simp at x0 x1 x2 x3 x4 x5 x6 x7 x8 x9;go_wp2_with fail;have hA1:Below w6.heap.size w6 (w6.alloc (.cells #[.int .u8 kd,.int .u8 sa,.int .u8 sb,.int .u8 sc,.int .u8 sd,.int .i64 sn,.int .i64 sm,.int .i64 su,.int .i64 se,.int .u64 sq] 87)):=(Below.refl w6.heap.size w6).alloc yL (.cells #[.int .u8 kd,.int .u8 sa,.int .u8 sb,.int .u8 sc,.int .u8 sd,.int .i64 sn,.int .i64 sm,.int .i64 su,.int .i64 se,.int .u64 sq] 87);have KS:=yH (Blk.new w6 #[.int .u8 kd,.int .u8 sa,.int .u8 sb,.int .u8 sc,.int .u8 sd,.int .i64 sn,.int .i64 sm,.int .i64 su,.int .i64 se,.int .u64 sq] 87);generalize w6.alloc (.cells #[.int .u8 kd,.int .u8 sa,.int .u8 sb,.int .u8 sc,.int .u8 sd,.int .i64 sn,.int .i64 sm,.int .i64 su,.int .i64 se,.int .u64 sq] 87)=w10 at *;refine(aNg _ _ _ _).mono ?_;rintro e w11 ⟨rfl,b11⟩;have b9a:=hA1.trans (b11.mono hA1.size);have hks:=KS.o.lt;have KSb:=yH (KS.o.below b11 hks);have IT1:=yH (MP.o.below IG6.o b9a)
  have hin:SlIn Stp.vals 10 Stp.Fits w11 (some ⟨w6.heap.size,0,none⟩) 1 1 [⟨kd,sa,sb,sc,sd,sn,sm,su,se,sq⟩]:=by
   refine⟨(fun e=>by cases e),rfl,(fun y hy=>?_),Nat.le_refl _,zX,fun _=>⟨_,_,rfl,KSb.o.lt,fun i hi j u hu=>?_⟩⟩
   ·rw[List.mem_singleton]at hy;subst hy;exact FS.o
   have hi0:i=0:=by simp at hi;omega
   subst hi0;rw[Nat.zero_mul,Nat.zero_add,KSb.o.cell];simpa [Stp.vals]using hu
  have CA:=yH (MP.o.apply IT1.o SI.o ⟨some ⟨w6.heap.size,0,none⟩,1,1,[⟨kd,sa,sb,sc,sd,sn,sm,su,se,sq⟩]⟩ hin (fun _ _=>trivial));have KX7:=yB KX6 b9a;have KW7:=yB KW b9a;have TP7:=yH (TP.o.below b9a);have TL7:=yH (TL.o.below b9a);have TF7:=yH (TF.o.below b9a);have B7:=yH (andB B6.o b9a);clear hin b11 hA1 b9a hks KS KSb IG6 KX6 KW TP TL TF B6 x0 x1 x2 x3 x4 x5 x6 x7 x8 x9 xl;go_wp2_with fail;refine CA.o.mono ?_;rintro e w12 ⟨v2,rfl,tv2,in2,k12⟩
  change Told w12 w11.heap.size 93 2 v2 (aB6 σ [⟨kd,sa,sb,sc,sd,sn,sm,su,se,sq⟩]).2.2.2.length (aAt (aB6 σ [⟨kd,sa,sb,sc,sd,sn,sm,su,se,sq⟩]).2.2.2)at tv2
  change Is w12 g (aB6 σ [⟨kd,sa,sb,sc,sd,sn,sm,su,se,sq⟩]).1 at in2
  have AO:=applyF_one σ ⟨kd,sa,sb,sc,sd,sn,sm,su,se,sq⟩;obtain⟨⟨ρ,gt,er⟩,hst⟩:∃r,aAx σ ⟨kd,sa,sb,sc,sd,sn,sm,su,se,sq⟩=r:=⟨_,rfl⟩;rw[hst]at AO;obtain⟨gw1,gw2,gw3,gw4⟩:=GW.o;have TP8:=yH (TP7.o.keep k12 (fun b hb e=>by have:=(TP7.o.own hb).1;omega));have TL8:=yH (TL7.o.keep k12 (fun b hb e=>by have:=(TL7.o.own hb).1;omega));have TF8:=yH (TF7.o.keep k12 (fun b hb e=>by have:=(TF7.o.own hb).1;omega));have KX8:=yH (KX7.o.keep k12 zQ);have KW8:=yH (KW7.o.keep k12 zQ);have B8:=yH (B7.o.trans (k12.below B7.o.size (fun j hj e=>zQ)));have NI:HInv ρ:=by have:=SI.o.step ⟨kd,sa,sb,sc,sd,sn,sm,su,se,sq⟩;rw[hst]at this;exact this
  have NH:=yH NI;clear CA k12 KX7 KW7 TP7 TL7 TF7 B7 NI IT1 gw1 gw2 gw3 gw4 GW
  by_cases hz0:er=0
  ·subst hz0;have MV:=yH (moves_any SI.o hst);rw[if_neg (fun e=>e rfl)]at AO;rw[AO]at tv2 in2 ⊢;clear AO hst
   change Told w12 w11.heap.size 93 2 v2 1 (aAt [gt])at tv2
   change Is w12 g ρ at in2
   go_upto_region 10 with(refine aAa rfl 36 (.tmp 8) (.tmp 38) rfl w12.heap.size #[.int .i64 0,.int .i64 0,v2] rfl rfl 36 _ (Blk.new w12 #[.int .i64 0,.int .i64 0,.slice none 0 0] 36).out zW rfl (by first|(simp[Value.oneCell'];done)|(obtain⟨_,_,rfl⟩:=tv2.shape;simp[Value.oneCell'])) ?_)
   have b13:Below w12.heap.size w12 ((w12.alloc (.cells #[.int .i64 0,.int .i64 0,.slice none 0 0] 36)).setRow w12.heap.size #[.int .i64 0,.int .i64 0,v2]):=below_setRow ((Below.refl w12.heap.size w12).alloc yL (.cells #[.int .i64 0,.int .i64 0,.slice none 0 0] 36)) yL _;have KQ:=yH ((Blk.new w12 #[.int .i64 0,.int .i64 0,.slice none 0 0] 36).row (cs:=#[.int .i64 0,.int .i64 0,v2]));generalize (w12.alloc (.cells #[.int .i64 0,.int .i64 0,.slice none 0 0] 36)).setRow w12.heap.size #[.int .i64 0,.int .i64 0,v2]=w13 at *;have CS:=yH (MP.o.state (MP.o.below in2 b13) NH.o);have TV:=yH (tv2.below b13);have TP9:=yH (TP8.o.below b13);have TL9:=yH (TL8.o.below b13);have TF9:=yH (TF8.o.below b13);have KX9:=yB KX8 b13;have KW9:=yB KW8 b13;have B9:=yH (andB B8.o b13);clear tv2 in2 b13 TP8 TL8 TF8 KX8 KW8 B8;go_wp2_with fail;refine CS.o.mono ?_;rintro e w15 ⟨up,ul,uo,rfl,tp,tl,tf,b15⟩
   go_upto_region 11 with(refine aAa rfl 46 (.tmp 9) (.tmp 40) rfl w15.heap.size #[up,ul,uo,.int .u64 ρ.N] rfl rfl 46 _ (Blk.new w15 #[.slice none 0 0,.slice none 0 0,.slice none 0 0,.int .u64 0] 46).out zW rfl (by first|(simp[Value.oneCell'];done)|(obtain⟨_,_,rfl⟩:=tp.shape;obtain⟨_,_,rfl⟩:=tl.shape;obtain⟨_,_,rfl⟩:=tf.shape;simp[Value.oneCell'])) ?_)
   have b16:Below w15.heap.size w15 ((w15.alloc (.cells #[.slice none 0 0,.slice none 0 0,.slice none 0 0,.int .u64 0] 46)).setRow w15.heap.size #[up,ul,uo,.int .u64 ρ.N]):=below_setRow ((Below.refl w15.heap.size w15).alloc yL (.cells #[.slice none 0 0,.slice none 0 0,.slice none 0 0,.int .u64 0] 46)) yL _;have KU:=yH ((Blk.new w15 #[.slice none 0 0,.slice none 0 0,.slice none 0 0,.int .u64 0] 46).row (cs:=#[up,ul,uo,.int .u64 ρ.N]));generalize (w15.alloc (.cells #[.slice none 0 0,.slice none 0 0,.slice none 0 0,.int .u64 0] 46)).setRow w15.heap.size #[up,ul,uo,.int .u64 ρ.N]=wz at *;have bz:=andB b15 b16;have S1:=yH (show aDv wz σ vp vl vo from⟨(TP9.o.below bz).reads SI.o.lens.1,(TL9.o.below bz).reads SI.o.lens.2.1,(TF9.o.below bz).reads SI.o.lens.2.2⟩);have S2:=yH (show aDv wz ρ up ul uo from⟨(tp.below b16).reads NH.o.lens.1,(tl.below b16).reads NH.o.lens.2.1,(tf.below b16).reads NH.o.lens.2.2⟩);have BZ:=yH (andB B9.o bz);have RV:=yH ((TV.o.below bz).reads zX);have KXz:=yB KX9 bz;have KWz:=yB KW9 bz;have KQz:=yB KQ bz;clear tp tl tf b15 b16 bz TP9 TL9 TF9 KX9 KW9 KQ B9 TV CS;obtain⟨ag,cg,rfl,_,_,hg⟩:=RV.o;obtain⟨bg,og,rfl,hbg,hcg⟩:=hg zX;obtain⟨gx,gy⟩:=gt;have G1:=yH (hcg 0 zX);have G2:=yH (hcg 1 zX);have GL:=yH hbg;clear hg hcg hbg;have CC:Hid (∀w',Below wz.heap.size wz w'→w'.cell? ⟨w.heap.size,0,none⟩=some (.int .u8 kd)∧w'.cell? ⟨w.heap.size,1,none⟩=some (.int .u8 sa)∧w'.cell? ⟨w.heap.size,2,none⟩=some (.int .u8 sb)∧w'.cell? ⟨w.heap.size,3,none⟩=some (.int .u8 sc)∧w'.cell? ⟨w.heap.size,4,none⟩=some (.int .u8 sd)∧w'.cell? ⟨w.heap.size,5,none⟩=some (.int .i64 sn)∧w'.cell? ⟨w.heap.size,6,none⟩=some (.int .i64 sm)∧w'.cell? ⟨w.heap.size,7,none⟩=some (.int .i64 su)∧w'.cell? ⟨w.heap.size,8,none⟩=some (.int .i64 se)∧w'.cell? ⟨w.heap.size,9,none⟩=some (.int .u64 sq)∧w.heap.size<w'.heap.size∧w'.cell? ⟨w5.heap.size,0,none⟩=some (vp)∧w'.cell? ⟨w5.heap.size,1,none⟩=some (vl)∧w'.cell? ⟨w5.heap.size,2,none⟩=some (vo)∧w'.cell? ⟨w5.heap.size,3,none⟩=some (.int .u64 σ.N)∧w5.heap.size<w'.heap.size∧w'.cell? ⟨w12.heap.size,0,none⟩=some (.int .i64 0)∧w'.cell? ⟨w12.heap.size,1,none⟩=some (.int .i64 0)∧w'.cell? ⟨w12.heap.size,2,none⟩=some (.slice (some ⟨bg,og,none⟩) 1 cg)∧w12.heap.size<w'.heap.size∧w'.cell? ⟨w15.heap.size,0,none⟩=some (up)∧w'.cell? ⟨w15.heap.size,1,none⟩=some (ul)∧w'.cell? ⟨w15.heap.size,2,none⟩=some (uo)∧w'.cell? ⟨w15.heap.size,3,none⟩=some (.int .u64 ρ.N)∧w15.heap.size<w'.heap.size∧w'.cell? ⟨bg,og,none⟩=some (.int .i64 gx)∧w'.cell? ⟨bg,og+1,none⟩=some (.int .i64 gy)∧bg<w'.heap.size):=yH (fun w' hS=>⟨(KXz.o.below hS KXz.o.lt).cell 0,(KXz.o.below hS KXz.o.lt).cell 1,(KXz.o.below hS KXz.o.lt).cell 2,(KXz.o.below hS KXz.o.lt).cell 3,(KXz.o.below hS KXz.o.lt).cell 4,(KXz.o.below hS KXz.o.lt).cell 5,(KXz.o.below hS KXz.o.lt).cell 6,(KXz.o.below hS KXz.o.lt).cell 7,(KXz.o.below hS KXz.o.lt).cell 8,(KXz.o.below hS KXz.o.lt).cell 9,(KXz.o.below hS KXz.o.lt).lt,(KWz.o.below hS KWz.o.lt).cell 0,(KWz.o.below hS KWz.o.lt).cell 1,(KWz.o.below hS KWz.o.lt).cell 2,(KWz.o.below hS KWz.o.lt).cell 3,(KWz.o.below hS KWz.o.lt).lt,(KQz.o.below hS KQz.o.lt).cell 0,(KQz.o.below hS KQz.o.lt).cell 1,(KQz.o.below hS KQz.o.lt).cell 2,(KQz.o.below hS KQz.o.lt).lt,(KU.o.below hS KU.o.lt).cell 0,(KU.o.below hS KU.o.lt).cell 1,(KU.o.below hS KU.o.lt).cell 2,(KU.o.below hS KU.o.lt).cell 3,(KU.o.below hS KU.o.lt).lt,(hS.cell (p:=⟨bg,og,none⟩) GL.o).trans G1.o,(hS.cell (p:=⟨bg,og+1,none⟩) GL.o).trans G2.o,yM GL.o hS.size⟩);clear KXz KWz KQz KU;obtain⟨x0,x1,x2,x3,x4,x5,x6,x7,x8,x9,xl,s0,s1,s2,s3,sl,r0,r1,r2,rl,u0,u1,u2,u3,ul,g0,g1,gl⟩:=CC.o _ yZ;have SDC:=yH (Sound_any S2.o NH.o);go_wp2_with fail;refine SDC.o.mono ?_;rintro e w17 ⟨rfl,b17⟩;clear SDC x0 x1 x2 x3 x4 x5 x6 x7 x8 x9 xl s0 s1 s2 s3 sl r0 r1 r2 rl u0 u1 u2 u3 ul g0 g1 gl;have B17:=yH b17;clear b17;obtain⟨x0,-,-,-,-,-,-,-,-,-,xl,-,-,-,-,-,-,-,-,-,-,-,-,-,-,-,-,-⟩:=CC.o _ B17.o
   go_upto_region 15 with fail
   go_cut [10]from 70 to 83 (fun v wx=>∃mv:Bool,v=.bool mv∧(mv=true↔kd=3∨kd=4∨kd=5)∧w17=wx)
   case first=>
    have hk:((kd==3)=true∧kd=3)∨((kd==3)=false∧(kd==4)=true∧kd=4)∨((kd==3)=false∧(kd==4)=false∧(kd==5)=true∧kd=5)∨((kd==3)=false∧(kd==4)=false∧(kd==5)=false∧kd≠3∧kd≠4∧kd≠5):=by
     by_cases h3:kd=3
     ·simp[h3]
     by_cases h4:kd=4
     ·simp[h4]
     by_cases h5:kd=5
     ·simp[h5]
     simp[h3,h4,h5]
    rcases hk with⟨q3,K⟩|⟨q3,q4,K⟩|⟨q3,q4,q5,K⟩|⟨q3,q4,q5,K⟩
    all_goals
     have KK:=yH K;clear K;go_wp2_with fail
     go_meet
     have K:=KK.o;exact⟨_,rfl,by simp[K],rfl⟩
   obtain⟨mv,rfl,hmv,rfl⟩:=hcut;have MVE:=yH hmv;clear hmv;go_wp2_with fail;clear x0 xl
   go_loopw [11] (CyAt w17) (fun i _=>9 - (intOf i).toNat)
   case atStart=>exact⟨1,zQ,zQ,rfl,yZ⟩
   obtain⟨c,hc1,hc9,rfl,hb⟩:=hrel;have BC:=yH (andB B17.o hb)
   by_cases hcl:c≤8
   ·have q1:decide ((c:Int)≤8)=true:=zU
    have HC:=yH (show 1≤c∧c≤8 from⟨hc1,hcl⟩);have HCB:=yH hb;have PZ:=yH (pos_from NH.o.li (c:Int));clear hc1 hc9 hb hcl;go_wp2_with fail
    go_loopw [12,13] (fun s i wr=>PyAt w17 ρ.ls c s i wr) (fun _ i _=>17 - (intOf i).toNat)
    case atStart=>exact⟨1,zQ,zQ,rfl,by rw[PZ.o.1],HCB.o⟩
    obtain⟨p,hp1,hp17,rfl,rfl,hb⟩:=hrel;have BP:=yH (andB B17.o hb)
    by_cases hpl:p≤16
    ·have q2:decide ((p:Int)≤16)=true:=zU
     have HP:=yH (show 1≤p∧p≤16 from⟨hp1,hpl⟩);have HPB:=yH hb;have bd:=PZ.o.2.2 p hp17;have bp:=aL0 NH.o.li (p:Int) (c:Int);have PN:=yH (aFx ρ.ls c p);have fp:=MV.o.pos (p:Int) (c:Int);dsimp only at fp;have C2:=yH (fun w' (k:Below wz.heap.size wz w')=>aEu (S2.o.below k) NH.o.li (p:Int) (c:Int));have C1:=yH (fun w' (k:Below wz.heap.size wz w')=>aEu (S1.o.below k) SI.o.li (p:Int) (c:Int));generalize posN ρ.ls c p=s at bd PN ⊢;generalize posL ρ.ls (p:Int) (c:Int)=x at bp PN fp C2;generalize posL σ.ls (p:Int) (c:Int)=y at fp C1;have FP:=yH fp;obtain⟨-,-,-,-,-,-,-,-,-,-,-,-,-,-,-,-,-,-,-,-,u0,u1,u2,u3,ul,-,-,-⟩:=CC.o _ BP.o;clear hp1 hp17 hpl hb fp;go_wp2_with fail;refine(C2.o _ BP.o).mono ?_;rintro e w18 ⟨rfl,b18⟩;have B18:=yH (andB BP.o b18);have P18:=yH (andB HPB.o b18);clear u0 u1 u2 u3 ul b18 C2;obtain⟨-,-,-,-,-,-,-,-,-,-,-,s0,s1,s2,s3,sl,-,-,-,-,-,-,-,-,-,-,-,-⟩:=CC.o _ B18.o;go_wp2_with fail;refine(C1.o _ B18.o).mono ?_;rintro e w19 ⟨rfl,b19⟩;have B19:=yH (andB B18.o b19);have P19:=yH (andB P18.o b19);clear s0 s1 s2 s3 sl b19 C1
     by_cases he:x=y
     ·have qe:(x==y)=true:=xT
      clear he;go_wp2_with fail;have hp:=HP.o;exact⟨⟨p+1,zQ,zQ,by go_num,by rw[PN.o] <;> first|done|go_num|(congr 1;omega),P19.o⟩,zN⟩
     have qe:(x==y)=false:=xT
     obtain⟨m1,m2,m3,m4⟩:=FP.o he;obtain rfl:mv=true:=MVE.o.2 m1;have M3:=yH m3;have M4:=yH m4;have M2:=yH m2;clear he m1 m2 m3 m4 FP;obtain⟨x0,x1,x2,-,-,-,-,-,-,-,xl,s0,s1,s2,s3,sl,-,-,-,-,u0,u1,u2,u3,ul,-,-,-⟩:=CC.o _ B19.o
     go_upto_region 26 with fail
     go_cut [15]from 104 to 130 (fun v wx=>v=.bool true∧Below w19.heap.size w19 wx)
     case first=>
      have hk:(((p:Int)==sa)=true)∨(((p:Int)==sa)=false∧(kd != 5)=true∧((p:Int)==sb)=true)∨(((p:Int)==sa)=false∧(kd != 5)=true∧((p:Int)==sb)=false∧(kd != 3)=true∧aNh ρ.l σ.l p)∨(((p:Int)==sa)=false∧(kd != 5)=false∧(kd != 3)=true∧aNh ρ.l σ.l p):=by
       have m2:=M2.o
       by_cases h1:(p:Int)=sa
       ·simp[h1]
       by_cases h2:kd=5
       ·subst h2;simp[h1]at m2 ⊢;exact m2
       by_cases h3:(p:Int)=sb
       ·exact .inr (.inl ⟨zR,zF,v6 h3⟩)
       simp[h1,h2,h3]at m2 ⊢;exact m2
      have LC:=yH (less_any (S2.o.below B19.o) NH.o (S1.o.below B19.o) SI.o (p:Int));rcases hk with r1|⟨r1,r2,r3⟩|⟨r1,r2,r3,r4,hl⟩|⟨r1,r2,r4,hl⟩
      ·go_wp2_with fail
       go_meet
       exact⟨rfl,yZ⟩
      ·go_wp2_with fail
       go_meet
       exact⟨rfl,yZ⟩
      all_goals
       have LH:=yH hl;clear hl;go_wp2_with fail;refine LC.o.mono ?_;rintro e w20 ⟨b,rfl,hbi,b20⟩;obtain rfl:b=true:=hbi.2 LH.o;have B20:=yH b20;clear hbi b20;go_wp2_with fail
       go_meet
       exact⟨rfl,B20.o⟩
     obtain⟨rfl,hbx⟩:=hcut;have B20:=yH (andB B19.o hbx);have P20:=yH (andB P19.o hbx);clear hbx x0 x1 x2 xl s0 s1 s2 s3 sl u0 u1 u2 u3 ul;obtain⟨x0,-,-,x3,x4,-,-,-,-,-,xl,-,-,-,-,-,-,-,-,-,-,-,-,-,-,-,-,-⟩:=CC.o _ B20.o
     have hk:((kd==3)=true∧((c:Int) != sc)=false)∨((kd==3)=false∧((c:Int) != sc)=false)∨((kd==3)=false∧((c:Int) != sc)=true∧((c:Int) != sd)=false):=by
      have m3:=M3.o;have m4:=M4.o
      by_cases h1:kd=3
      ·have:=m3 h1;simp[h1,this]
      by_cases h2:(c:Int)=sc
      ·simp[h1,h2]
      have h3:(c:Int)=sd:=zQ
      exact .inr (.inr ⟨zR,zF,by simp[h3]⟩)
     rcases hk with⟨r1,r2⟩|⟨r1,r2⟩|⟨r1,r2,r3⟩
     all_goals
      go_wp2_with fail;have hp:=HP.o;exact⟨⟨p+1,zQ,zQ,by go_num,by rw[PN.o] <;> first|done|go_num|(congr 1;omega),P20.o⟩,zN⟩
    obtain rfl:p=17:=zQ
    rw[PZ.o.2.1];have HPB:=yH hb;clear hp1 hp17 hpl hb;go_wp2_with fail;have hc:=HC.o;exact⟨⟨c+1,zQ,zQ,by go_num,HPB.o⟩,zN⟩
   obtain rfl:c=9:=zQ
   obtain⟨x0,-,-,-,-,-,-,-,-,-,xl,-,-,-,-,-,-,-,-,-,-,-,-,-,-,-,-,-⟩:=CC.o _ BC.o;have BE:=yH (andB BZ.o BC.o);clear hc1 hc9 hb hcl MVE
   by_cases k3:kd=3
   ·have q3:(kd==3)=true:=vM
    obtain⟨p1,p2⟩:=MV.o.pay k3;dsimp only at p1 p2;have c1:=fun w' (k:Below wz.heap.size wz w')=>aEu (S2.o.below k) NH.o.li sa sc
    have c2:=fun w' (k:Below wz.heap.size wz w')=>aEu (S2.o.below k) NH.o.li sb sc
    simp only[p1]at c1;simp only[p2]at c2;have C1:=yH c1;have C2:=yH c2;have D1:=yH (fun w' (k:Below wz.heap.size wz w')=>aEu (S1.o.below k) SI.o.li sa sc);have D2:=yH (fun w' (k:Below wz.heap.size wz w')=>aEu (S1.o.below k) SI.o.li sb sc);have bA:=aL0 NH.o.li sa sc;have bD:=aL0 NH.o.li sb sc;rw[p1]at bA;rw[p2]at bD;clear p1 p2 c1 c2 k3;generalize posL σ.ls sa sc=A at *;generalize posL σ.ls sb sc=B at *
    go_upto_region 32 with fail
    clear x0 xl;refine aAm zW [(.agg #[up,ul,uo,.int .u64 ρ.N]),(.pointer (some ⟨w.heap.size,1,none⟩)),(.int .u8 sa),(.pointer (some ⟨w.heap.size,3,none⟩)),(.int .u8 sc),(.int .i64 (A - sn)),(.agg #[vp,vl,vo,.int .u64 σ.N]),(.pointer (some ⟨w.heap.size,1,none⟩)),(.int .u8 sa),(.pointer (some ⟨w.heap.size,3,none⟩)),(.int .u8 sc),(.int .i64 A),(.pointer (some ⟨w.heap.size,5,none⟩)),(.int .i64 sn),(.int .i64 (A - sn)),(.bool true),(.bool true),(.agg #[up,ul,uo,.int .u64 ρ.N]),(.pointer (some ⟨w.heap.size,2,none⟩)),(.int .u8 sb),(.pointer (some ⟨w.heap.size,3,none⟩)),(.int .u8 sc),(.int .i64 (B+sn)),(.agg #[vp,vl,vo,.int .u64 σ.N]),(.pointer (some ⟨w.heap.size,2,none⟩)),(.int .u8 sb),(.pointer (some ⟨w.heap.size,3,none⟩)),(.int .u8 sc),(.int .i64 B),(.pointer (some ⟨w.heap.size,5,none⟩)),(.int .i64 sn),(.int .i64 (B+sn)),(.bool true),(.bool true),(.bool true),(.bool true),(.bool true),(.bool true)] (fun w'=>Below wr.heap.size wr w') zW yZ.drew ?_;intro af haf;simp only[yG,List.append_eq,List.cons_append,List.nil_append,puts,Act.put,yA,yC,yF,yD,yE]at haf;subst haf;refine⟨?_,?_⟩
    ·simp only[yG,List.append_eq,List.cons_append,List.nil_append,aBd];refine⟨?_,?_,?_,?_,?_,?_,?_,?_,?_,?_,?_,?_,?_,?_,?_,?_,?_,?_,?_,?_,?_,?_,?_,?_,?_,?_,?_,?_,?_,?_,?_,?_,?_,?_,?_,?_,?_,?_,trivial⟩
     iterate 5 (· intro w' hS;(first|(refine yO ?_ ?_;exact rfl)|(refine OpTo.wanted ?_ ?_;kernel_rfl));obtain⟨x0,x1,x2,x3,x4,x5,x6,x7,x8,x9,xl,s0,s1,s2,s3,sl,r0,r1,r2,rl,u0,u1,u2,u3,ul,g0,g1,gl⟩:=CC.o _ (andB BC.o hS);have HS:=yH hS;clear hS;go_wp2_with fail;all_goals first|exact HS|exact⟨rfl,HS⟩|rfl|exact⟨zQ,HS.o⟩)
     ·intro w' hS
      (first|(refine yO ?_ ?_;exact rfl)|(refine OpTo.wanted ?_ ?_;kernel_rfl))
      have hS0:=andB BC.o hS;have HC:=yH (C1.o w' hS0);have HS:=yH hS;clear hS hS0;go_wp2_with fail;refine HC.o.mono ?_;rintro e w'' ⟨rfl,hb2⟩;exact⟨rfl,andB HS.o hb2⟩
     iterate 5 (· intro w' hS;(first|(refine yO ?_ ?_;exact rfl)|(refine OpTo.wanted ?_ ?_;kernel_rfl));obtain⟨x0,x1,x2,x3,x4,x5,x6,x7,x8,x9,xl,s0,s1,s2,s3,sl,r0,r1,r2,rl,u0,u1,u2,u3,ul,g0,g1,gl⟩:=CC.o _ (andB BC.o hS);have HS:=yH hS;clear hS;go_wp2_with fail;all_goals first|exact HS|exact⟨rfl,HS⟩|rfl|exact⟨zQ,HS.o⟩)
     ·intro w' hS
      (first|(refine yO ?_ ?_;exact rfl)|(refine OpTo.wanted ?_ ?_;kernel_rfl))
      have hS0:=andB BC.o hS;have HC:=yH (D1.o w' hS0);have HS:=yH hS;clear hS hS0;go_wp2_with fail;refine HC.o.mono ?_;rintro e w'' ⟨rfl,hb2⟩;exact⟨rfl,andB HS.o hb2⟩
     iterate 10 (· intro w' hS;(first|(refine yO ?_ ?_;exact rfl)|(refine OpTo.wanted ?_ ?_;kernel_rfl));obtain⟨x0,x1,x2,x3,x4,x5,x6,x7,x8,x9,xl,s0,s1,s2,s3,sl,r0,r1,r2,rl,u0,u1,u2,u3,ul,g0,g1,gl⟩:=CC.o _ (andB BC.o hS);have HS:=yH hS;clear hS;go_wp2_with fail;all_goals first|exact HS|exact⟨rfl,HS⟩|rfl|exact⟨zQ,HS.o⟩)
     ·intro w' hS
      (first|(refine yO ?_ ?_;exact rfl)|(refine OpTo.wanted ?_ ?_;kernel_rfl))
      have hS0:=andB BC.o hS;have HC:=yH (C2.o w' hS0);have HS:=yH hS;clear hS hS0;go_wp2_with fail;refine HC.o.mono ?_;rintro e w'' ⟨rfl,hb2⟩;exact⟨rfl,andB HS.o hb2⟩
     iterate 5 (· intro w' hS;(first|(refine yO ?_ ?_;exact rfl)|(refine OpTo.wanted ?_ ?_;kernel_rfl));obtain⟨x0,x1,x2,x3,x4,x5,x6,x7,x8,x9,xl,s0,s1,s2,s3,sl,r0,r1,r2,rl,u0,u1,u2,u3,ul,g0,g1,gl⟩:=CC.o _ (andB BC.o hS);have HS:=yH hS;clear hS;go_wp2_with fail;all_goals first|exact HS|exact⟨rfl,HS⟩|rfl|exact⟨zQ,HS.o⟩)
     ·intro w' hS
      (first|(refine yO ?_ ?_;exact rfl)|(refine OpTo.wanted ?_ ?_;kernel_rfl))
      have hS0:=andB BC.o hS;have HC:=yH (D2.o w' hS0);have HS:=yH hS;clear hS hS0;go_wp2_with fail;refine HC.o.mono ?_;rintro e w'' ⟨rfl,hb2⟩;exact⟨rfl,andB HS.o hb2⟩
     iterate 6 (· intro w' hS;(first|(refine yO ?_ ?_;exact rfl)|(refine OpTo.wanted ?_ ?_;kernel_rfl));obtain⟨x0,x1,x2,x3,x4,x5,x6,x7,x8,x9,xl,s0,s1,s2,s3,sl,r0,r1,r2,rl,u0,u1,u2,u3,ul,g0,g1,gl⟩:=CC.o _ (andB BC.o hS);have HS:=yH hS;clear hS;go_wp2_with fail;all_goals first|exact HS|exact⟨rfl,HS⟩|rfl|exact⟨zQ,HS.o⟩)
     ·intro w' hS
      (first|(refine yO ?_ ?_;exact rfl)|(refine OpTo.wanted ?_ ?_;kernel_rfl))
      have HC:=yH (LV.o w');have HS:=yH hS;clear hS;go_wp2_with fail;refine HC.o.mono ?_;rintro e w'' ⟨rfl,hb2⟩;exact⟨rfl,andB HS.o hb2⟩
     iterate 2 (· intro w' hS;(first|(refine yO ?_ ?_;exact rfl)|(refine OpTo.wanted ?_ ?_;kernel_rfl));obtain⟨x0,x1,x2,x3,x4,x5,x6,x7,x8,x9,xl,s0,s1,s2,s3,sl,r0,r1,r2,rl,u0,u1,u2,u3,ul,g0,g1,gl⟩:=CC.o _ (andB BC.o hS);have HS:=yH hS;clear hS;go_wp2_with fail;all_goals first|exact HS|exact⟨rfl,HS⟩|rfl|exact⟨zQ,HS.o⟩)
    intro w21 hS;have B21:=yH (andB BE.o hS);clear hS
    try dsimp only
    go_wp2_with fail;go_ret;exact⟨rfl,B21.o⟩
   by_cases k4:kd=4
   ·have q3:(kd==3)=false:=vM
    have q4:(kd==4)=true:=v6 k4
    have hg:=MV.o.swap k4;dsimp only at hg;obtain⟨g1,g2,g3,g4⟩:=hg;have r1:decide (1≤gx)=true:=v6 g1
    have r2:decide (gx≤sm)=true:=v6 g2
    have r3:decide (1≤gy)=true:=v6 g3
    have r4:decide (gy≤64)=true:=v6 g4
    clear k3 k4 g1 g2 g3 g4
    go_upto_region 34 with fail
    clear x0 xl;refine aAm zW [(.pointer (some ⟨w12.heap.size,2,none⟩)),(.slice (some ⟨bg,og,none⟩) 1 cg),(.pointer (some ⟨bg,og,none⟩)),(.pointer (some ⟨bg,og,none⟩)),(.int .i64 gx),(.bool true),(.bool true),(.pointer (some ⟨w12.heap.size,2,none⟩)),(.slice (some ⟨bg,og,none⟩) 1 cg),(.pointer (some ⟨bg,og,none⟩)),(.pointer (some ⟨bg,og,none⟩)),(.int .i64 gx),(.pointer (some ⟨w.heap.size,6,none⟩)),(.int .i64 sm),(.bool true),(.bool true),(.bool true),(.pointer (some ⟨w12.heap.size,2,none⟩)),(.slice (some ⟨bg,og,none⟩) 1 cg),(.pointer (some ⟨bg,og,none⟩)),(.pointer (some ⟨bg,og+1,none⟩)),(.int .i64 gy),(.bool true),(.bool true),(.bool true),(.pointer (some ⟨w12.heap.size,2,none⟩)),(.slice (some ⟨bg,og,none⟩) 1 cg),(.pointer (some ⟨bg,og,none⟩)),(.pointer (some ⟨bg,og+1,none⟩)),(.int .i64 gy),(.bool true),(.bool true),(.bool true),(.bool true),(.bool true),(.bool true)] (fun w'=>Below wr.heap.size wr w') zW yZ.drew ?_;intro af haf;simp only[yG,List.append_eq,List.cons_append,List.nil_append,puts,Act.put,yA,yC,yF,yD,yE]at haf;subst haf;refine⟨?_,?_⟩
    ·simp only[yG,List.append_eq,List.cons_append,List.nil_append,aBd];refine⟨?_,?_,?_,?_,?_,?_,?_,?_,?_,?_,?_,?_,?_,?_,?_,?_,?_,?_,?_,?_,?_,?_,?_,?_,?_,?_,?_,?_,?_,?_,?_,?_,?_,?_,?_,?_,trivial⟩
     iterate 33 (· intro w' hS;(first|(refine yO ?_ ?_;exact rfl)|(refine OpTo.wanted ?_ ?_;kernel_rfl));obtain⟨x0,x1,x2,x3,x4,x5,x6,x7,x8,x9,xl,s0,s1,s2,s3,sl,r0,r1,r2,rl,u0,u1,u2,u3,ul,g0,g1,gl⟩:=CC.o _ (andB BC.o hS);have HS:=yH hS;clear hS;go_wp2_with fail;all_goals first|exact HS|exact⟨rfl,HS⟩|rfl|exact⟨zQ,HS.o⟩)
     ·intro w' hS
      (first|(refine yO ?_ ?_;exact rfl)|(refine OpTo.wanted ?_ ?_;kernel_rfl))
      have HC:=yH (LV.o w');have HS:=yH hS;clear hS;go_wp2_with fail;refine HC.o.mono ?_;rintro e w'' ⟨rfl,hb2⟩;exact⟨rfl,andB HS.o hb2⟩
     iterate 2 (· intro w' hS;(first|(refine yO ?_ ?_;exact rfl)|(refine OpTo.wanted ?_ ?_;kernel_rfl));obtain⟨x0,x1,x2,x3,x4,x5,x6,x7,x8,x9,xl,s0,s1,s2,s3,sl,r0,r1,r2,rl,u0,u1,u2,u3,ul,g0,g1,gl⟩:=CC.o _ (andB BC.o hS);have HS:=yH hS;clear hS;go_wp2_with fail;all_goals first|exact HS|exact⟨rfl,HS⟩|rfl|exact⟨zQ,HS.o⟩)
    intro w21 hS;have B21:=yH (andB BE.o hS);clear hS
    try dsimp only
    go_wp2_with fail;go_ret;exact⟨rfl,B21.o⟩
   by_cases k7:kd=7
   ·have q3:(kd==3)=false:=vM
    have q4:(kd==4)=false:=v6 k4
    have q7:(kd==7)=true:=v6 k7
    have hg:=MV.o.net k7;dsimp only at hg;obtain⟨g1,g2,g3⟩:=hg;have r1:decide (0≤gx)=true:=v6 g1
    have r2:decide (0≤gy)=true:=v6 g2
    have r3:decide (gy≤max sm 0)=true:=v6 g3
    clear k3 k4 k7 g1 g2 g3
    go_upto_region 36 with fail
    clear x0 xl;refine aAm zW [(.pointer (some ⟨w12.heap.size,2,none⟩)),(.slice (some ⟨bg,og,none⟩) 1 cg),(.pointer (some ⟨bg,og,none⟩)),(.pointer (some ⟨bg,og,none⟩)),(.int .i64 gx),(.bool true),(.bool true),(.pointer (some ⟨w12.heap.size,2,none⟩)),(.slice (some ⟨bg,og,none⟩) 1 cg),(.pointer (some ⟨bg,og,none⟩)),(.pointer (some ⟨bg,og+1,none⟩)),(.int .i64 gy),(.bool true),(.bool true),(.bool true),(.pointer (some ⟨w12.heap.size,2,none⟩)),(.slice (some ⟨bg,og,none⟩) 1 cg),(.pointer (some ⟨bg,og,none⟩)),(.pointer (some ⟨bg,og+1,none⟩)),(.int .i64 gy),(.pointer (some ⟨w.heap.size,6,none⟩)),(.int .i64 sm),(.int .i64 (max sm 0)),(.bool true),(.bool true),(.bool true),(.bool true),(.bool true),(.bool true)] (fun w'=>Below wr.heap.size wr w') zW yZ.drew ?_;intro af haf;simp only[yG,List.append_eq,List.cons_append,List.nil_append,puts,Act.put,yA,yC,yF,yD,yE]at haf;subst haf;refine⟨?_,?_⟩
    ·simp only[yG,List.append_eq,List.cons_append,List.nil_append,aBd];refine⟨?_,?_,?_,?_,?_,?_,?_,?_,?_,?_,?_,?_,?_,?_,?_,?_,?_,?_,?_,?_,?_,?_,?_,?_,?_,?_,?_,?_,?_,trivial⟩
     iterate 26 (· intro w' hS;(first|(refine yO ?_ ?_;exact rfl)|(refine OpTo.wanted ?_ ?_;kernel_rfl));obtain⟨x0,x1,x2,x3,x4,x5,x6,x7,x8,x9,xl,s0,s1,s2,s3,sl,r0,r1,r2,rl,u0,u1,u2,u3,ul,g0,g1,gl⟩:=CC.o _ (andB BC.o hS);have HS:=yH hS;clear hS;go_wp2_with fail;all_goals first|exact HS|exact⟨rfl,HS⟩|rfl|exact⟨zQ,HS.o⟩)
     ·intro w' hS
      (first|(refine yO ?_ ?_;exact rfl)|(refine OpTo.wanted ?_ ?_;kernel_rfl))
      have HC:=yH (LV.o w');have HS:=yH hS;clear hS;go_wp2_with fail;refine HC.o.mono ?_;rintro e w'' ⟨rfl,hb2⟩;exact⟨rfl,andB HS.o hb2⟩
     iterate 2 (· intro w' hS;(first|(refine yO ?_ ?_;exact rfl)|(refine OpTo.wanted ?_ ?_;kernel_rfl));obtain⟨x0,x1,x2,x3,x4,x5,x6,x7,x8,x9,xl,s0,s1,s2,s3,sl,r0,r1,r2,rl,u0,u1,u2,u3,ul,g0,g1,gl⟩:=CC.o _ (andB BC.o hS);have HS:=yH hS;clear hS;go_wp2_with fail;all_goals first|exact HS|exact⟨rfl,HS⟩|rfl|exact⟨zQ,HS.o⟩)
    intro w21 hS;have B21:=yH (andB BE.o hS);clear hS
    try dsimp only
    go_wp2_with fail;go_ret;exact⟨rfl,B21.o⟩
   by_cases k6:kd=6
   ·have q3:(kd==3)=false:=vM
    have q4:(kd==4)=false:=v6 k4
    have q7:(kd==7)=false:=v6 k7
    have q6:(kd==6)=true:=v6 k6
    obtain⟨o1,o2⟩:=MV.o.cancel k6;dsimp only at o1 o2;have c1:=fun w' (k:Below wz.heap.size wz w')=>aRy (S1.o.below k) SI.o sq
    have c2:=fun w' (k:Below wz.heap.size wz w')=>aRy (S2.o.below k) NH.o sq
    simp only[o1]at c1;simp only[o2]at c2;have C1:=yH c1;have C2:=yH c2;clear k3 k4 k7 k6 o1 o2 c1 c2
    go_upto_region 38 with fail
    clear x0 xl;refine aAm zW [(.agg #[vp,vl,vo,.int .u64 σ.N]),(.pointer (some ⟨w.heap.size,9,none⟩)),(.int .u64 sq),(.int .u8 sa),(.pointer (some ⟨w.heap.size,1,none⟩)),(.int .u8 sa),(.bool true),(.bool true),(.agg #[up,ul,uo,.int .u64 ρ.N]),(.pointer (some ⟨w.heap.size,9,none⟩)),(.int .u64 sq),(.int .u8 0),(.bool true),(.bool true),(.bool true),(.bool true),(.bool true),(.bool true)] (fun w'=>Below wr.heap.size wr w') zW yZ.drew ?_;intro af haf;simp only[yG,List.append_eq,List.cons_append,List.nil_append,puts,Act.put,yA,yC,yF,yD,yE]at haf;subst haf;refine⟨?_,?_⟩
    ·simp only[yG,List.append_eq,List.cons_append,List.nil_append,aBd];refine⟨?_,?_,?_,?_,?_,?_,?_,?_,?_,?_,?_,?_,?_,?_,?_,?_,?_,?_,trivial⟩
     iterate 3 (· intro w' hS;(first|(refine yO ?_ ?_;exact rfl)|(refine OpTo.wanted ?_ ?_;kernel_rfl));obtain⟨x0,x1,x2,x3,x4,x5,x6,x7,x8,x9,xl,s0,s1,s2,s3,sl,r0,r1,r2,rl,u0,u1,u2,u3,ul,g0,g1,gl⟩:=CC.o _ (andB BC.o hS);have HS:=yH hS;clear hS;go_wp2_with fail;all_goals first|exact HS|exact⟨rfl,HS⟩|rfl|exact⟨zQ,HS.o⟩)
     ·intro w' hS
      (first|(refine yO ?_ ?_;exact rfl)|(refine OpTo.wanted ?_ ?_;kernel_rfl))
      have hS0:=andB BC.o hS;have HC:=yH (C1.o w' hS0);have HS:=yH hS;clear hS hS0;go_wp2_with fail;refine HC.o.mono ?_;rintro e w'' ⟨rfl,hb2⟩;exact⟨rfl,andB HS.o hb2⟩
     iterate 7 (· intro w' hS;(first|(refine yO ?_ ?_;exact rfl)|(refine OpTo.wanted ?_ ?_;kernel_rfl));obtain⟨x0,x1,x2,x3,x4,x5,x6,x7,x8,x9,xl,s0,s1,s2,s3,sl,r0,r1,r2,rl,u0,u1,u2,u3,ul,g0,g1,gl⟩:=CC.o _ (andB BC.o hS);have HS:=yH hS;clear hS;go_wp2_with fail;all_goals first|exact HS|exact⟨rfl,HS⟩|rfl|exact⟨zQ,HS.o⟩)
     ·intro w' hS
      (first|(refine yO ?_ ?_;exact rfl)|(refine OpTo.wanted ?_ ?_;kernel_rfl))
      have hS0:=andB BC.o hS;have HC:=yH (C2.o w' hS0);have HS:=yH hS;clear hS hS0;go_wp2_with fail;refine HC.o.mono ?_;rintro e w'' ⟨rfl,hb2⟩;exact⟨rfl,andB HS.o hb2⟩
     iterate 3 (· intro w' hS;(first|(refine yO ?_ ?_;exact rfl)|(refine OpTo.wanted ?_ ?_;kernel_rfl));obtain⟨x0,x1,x2,x3,x4,x5,x6,x7,x8,x9,xl,s0,s1,s2,s3,sl,r0,r1,r2,rl,u0,u1,u2,u3,ul,g0,g1,gl⟩:=CC.o _ (andB BC.o hS);have HS:=yH hS;clear hS;go_wp2_with fail;all_goals first|exact HS|exact⟨rfl,HS⟩|rfl|exact⟨zQ,HS.o⟩)
     ·intro w' hS
      (first|(refine yO ?_ ?_;exact rfl)|(refine OpTo.wanted ?_ ?_;kernel_rfl))
      have HC:=yH (LV.o w');have HS:=yH hS;clear hS;go_wp2_with fail;refine HC.o.mono ?_;rintro e w'' ⟨rfl,hb2⟩;exact⟨rfl,andB HS.o hb2⟩
     iterate 2 (· intro w' hS;(first|(refine yO ?_ ?_;exact rfl)|(refine OpTo.wanted ?_ ?_;kernel_rfl));obtain⟨x0,x1,x2,x3,x4,x5,x6,x7,x8,x9,xl,s0,s1,s2,s3,sl,r0,r1,r2,rl,u0,u1,u2,u3,ul,g0,g1,gl⟩:=CC.o _ (andB BC.o hS);have HS:=yH hS;clear hS;go_wp2_with fail;all_goals first|exact HS|exact⟨rfl,HS⟩|rfl|exact⟨zQ,HS.o⟩)
    intro w21 hS;have B21:=yH (andB BE.o hS);clear hS
    try dsimp only
    go_wp2_with fail;go_ret;exact⟨rfl,B21.o⟩
   have q3:(kd==3)=false:=vM
   have q4:(kd==4)=false:=v6 k4
   have q7:(kd==7)=false:=v6 k7
   have q6:(kd==6)=false:=v6 k6
   clear k3 k4 k7 k6;go_wp2_with fail;clear x0 xl;refine(LV.o _).mono ?_;rintro e wl ⟨rfl,bl⟩;go_wp2_with fail;go_ret;exact⟨rfl,andB BE.o bl⟩
  rw[if_pos hz0]at AO;rw[AO]at tv2 in2 ⊢;clear AO hst
  change Told w12 w11.heap.size 93 2 v2 0 (aAt [])at tv2
  change Is w12 g σ at in2
  go_upto_region 10 with(refine aAa rfl 36 (.tmp 8) (.tmp 38) rfl w12.heap.size #[.int .i64 er,.int .i64 0,v2] rfl rfl 36 _ (Blk.new w12 #[.int .i64 0,.int .i64 0,.slice none 0 0] 36).out zW rfl (by first|(simp[Value.oneCell'];done)|(obtain⟨_,_,rfl⟩:=tv2.shape;simp[Value.oneCell'])) ?_)
  have b13:Below w12.heap.size w12 ((w12.alloc (.cells #[.int .i64 0,.int .i64 0,.slice none 0 0] 36)).setRow w12.heap.size #[.int .i64 er,.int .i64 0,v2]):=below_setRow ((Below.refl w12.heap.size w12).alloc yL (.cells #[.int .i64 0,.int .i64 0,.slice none 0 0] 36)) yL _;have KQ:=yH ((Blk.new w12 #[.int .i64 0,.int .i64 0,.slice none 0 0] 36).row (cs:=#[.int .i64 er,.int .i64 0,v2]));generalize (w12.alloc (.cells #[.int .i64 0,.int .i64 0,.slice none 0 0] 36)).setRow w12.heap.size #[.int .i64 er,.int .i64 0,v2]=w13 at *;have CS:=yH (MP.o.state (MP.o.below in2 b13) SI.o);have TV:=yH (tv2.below b13);have TP9:=yH (TP8.o.below b13);have TL9:=yH (TL8.o.below b13);have TF9:=yH (TF8.o.below b13);have KX9:=yB KX8 b13;have KW9:=yB KW8 b13;have B9:=yH (andB B8.o b13);clear tv2 in2 b13 TP8 TL8 TF8 KX8 KW8 B8;go_wp2_with fail;refine CS.o.mono ?_;rintro e w15 ⟨up,ul,uo,rfl,tp,tl,tf,b15⟩
  go_upto_region 11 with(refine aAa rfl 46 (.tmp 9) (.tmp 40) rfl w15.heap.size #[up,ul,uo,.int .u64 σ.N] rfl rfl 46 _ (Blk.new w15 #[.slice none 0 0,.slice none 0 0,.slice none 0 0,.int .u64 0] 46).out zW rfl (by first|(simp[Value.oneCell'];done)|(obtain⟨_,_,rfl⟩:=tp.shape;obtain⟨_,_,rfl⟩:=tl.shape;obtain⟨_,_,rfl⟩:=tf.shape;simp[Value.oneCell'])) ?_)
  have b16:Below w15.heap.size w15 ((w15.alloc (.cells #[.slice none 0 0,.slice none 0 0,.slice none 0 0,.int .u64 0] 46)).setRow w15.heap.size #[up,ul,uo,.int .u64 σ.N]):=below_setRow ((Below.refl w15.heap.size w15).alloc yL (.cells #[.slice none 0 0,.slice none 0 0,.slice none 0 0,.int .u64 0] 46)) yL _;have KU:=yH ((Blk.new w15 #[.slice none 0 0,.slice none 0 0,.slice none 0 0,.int .u64 0] 46).row (cs:=#[up,ul,uo,.int .u64 σ.N]));generalize (w15.alloc (.cells #[.slice none 0 0,.slice none 0 0,.slice none 0 0,.int .u64 0] 46)).setRow w15.heap.size #[up,ul,uo,.int .u64 σ.N]=wz at *;have bz:=andB b15 b16;have S1:=yH (show aDv wz σ vp vl vo from⟨(TP9.o.below bz).reads SI.o.lens.1,(TL9.o.below bz).reads SI.o.lens.2.1,(TF9.o.below bz).reads SI.o.lens.2.2⟩);have S2:=yH (show aDv wz σ up ul uo from⟨(tp.below b16).reads SI.o.lens.1,(tl.below b16).reads SI.o.lens.2.1,(tf.below b16).reads SI.o.lens.2.2⟩);have BZ:=yH (andB B9.o bz);have RV:=yH ((TV.o.below bz).reads zX);have KXz:=yB KX9 bz;have KWz:=yB KW9 bz;have KQz:=yB KQ bz;clear tp tl tf b15 b16 bz TP9 TL9 TF9 KX9 KW9 KQ B9 TV CS;obtain⟨ag,cg,rfl⟩:=RV.o.shape;have CC:Hid (∀w',Below wz.heap.size wz w'→w'.cell? ⟨w.heap.size,0,none⟩=some (.int .u8 kd)∧w'.cell? ⟨w.heap.size,1,none⟩=some (.int .u8 sa)∧w'.cell? ⟨w.heap.size,2,none⟩=some (.int .u8 sb)∧w'.cell? ⟨w.heap.size,3,none⟩=some (.int .u8 sc)∧w'.cell? ⟨w.heap.size,4,none⟩=some (.int .u8 sd)∧w'.cell? ⟨w.heap.size,5,none⟩=some (.int .i64 sn)∧w'.cell? ⟨w.heap.size,6,none⟩=some (.int .i64 sm)∧w'.cell? ⟨w.heap.size,7,none⟩=some (.int .i64 su)∧w'.cell? ⟨w.heap.size,8,none⟩=some (.int .i64 se)∧w'.cell? ⟨w.heap.size,9,none⟩=some (.int .u64 sq)∧w.heap.size<w'.heap.size∧w'.cell? ⟨w5.heap.size,0,none⟩=some (vp)∧w'.cell? ⟨w5.heap.size,1,none⟩=some (vl)∧w'.cell? ⟨w5.heap.size,2,none⟩=some (vo)∧w'.cell? ⟨w5.heap.size,3,none⟩=some (.int .u64 σ.N)∧w5.heap.size<w'.heap.size∧w'.cell? ⟨w12.heap.size,0,none⟩=some (.int .i64 er)∧w'.cell? ⟨w12.heap.size,1,none⟩=some (.int .i64 0)∧w'.cell? ⟨w12.heap.size,2,none⟩=some (.slice ag 0 cg)∧w12.heap.size<w'.heap.size∧w'.cell? ⟨w15.heap.size,0,none⟩=some (up)∧w'.cell? ⟨w15.heap.size,1,none⟩=some (ul)∧w'.cell? ⟨w15.heap.size,2,none⟩=some (uo)∧w'.cell? ⟨w15.heap.size,3,none⟩=some (.int .u64 σ.N)∧w15.heap.size<w'.heap.size):=yH (fun w' hS=>⟨(KXz.o.below hS KXz.o.lt).cell 0,(KXz.o.below hS KXz.o.lt).cell 1,(KXz.o.below hS KXz.o.lt).cell 2,(KXz.o.below hS KXz.o.lt).cell 3,(KXz.o.below hS KXz.o.lt).cell 4,(KXz.o.below hS KXz.o.lt).cell 5,(KXz.o.below hS KXz.o.lt).cell 6,(KXz.o.below hS KXz.o.lt).cell 7,(KXz.o.below hS KXz.o.lt).cell 8,(KXz.o.below hS KXz.o.lt).cell 9,(KXz.o.below hS KXz.o.lt).lt,(KWz.o.below hS KWz.o.lt).cell 0,(KWz.o.below hS KWz.o.lt).cell 1,(KWz.o.below hS KWz.o.lt).cell 2,(KWz.o.below hS KWz.o.lt).cell 3,(KWz.o.below hS KWz.o.lt).lt,(KQz.o.below hS KQz.o.lt).cell 0,(KQz.o.below hS KQz.o.lt).cell 1,(KQz.o.below hS KQz.o.lt).cell 2,(KQz.o.below hS KQz.o.lt).lt,(KU.o.below hS KU.o.lt).cell 0,(KU.o.below hS KU.o.lt).cell 1,(KU.o.below hS KU.o.lt).cell 2,(KU.o.below hS KU.o.lt).cell 3,(KU.o.below hS KU.o.lt).lt⟩);clear KXz KWz KQz KU;obtain⟨x0,x1,x2,x3,x4,x5,x6,x7,x8,x9,xl,s0,s1,s2,s3,sl,r0,r1,r2,rl,u0,u1,u2,u3,ul⟩:=CC.o _ yZ;have qe:(er != 0)=true:=v6 hz0
  clear CC;go_wp2_with fail;clear x0 x1 x2 x3 x4 x5 x6 x7 x8 x9 xl s0 s1 s2 s3 sl r0 r1 r2 rl u0 u1 u2 u3 ul;refine(like_any S2.o S1.o).mono ?_;rintro e w17 ⟨rfl,b17⟩;have B17:=yH (andB BZ.o b17);clear b17;go_wp2_with fail;refine(LV.o _).mono ?_;rintro e wl ⟨rfl,bl⟩;go_wp2_with fail;go_ret;exact⟨rfl,andB B17.o bl⟩
theorem aR0{Is:World→Nat→Hs→Prop}(HM:aH4 (fun _=>True) Is)(HL:aP4)(a:Option Addr)(len cap:Nat)(cs:List Cm)(x:Stp)(w:World)(h:SlIn Cm.vals 1 (Cm.In w) w a len cap cs)(hx:x.Fits):
  Calls Tryz.prog 6 #[.slice a len cap,x.val] w (yR w (.bool true)):=by
 obtain⟨kd,sa,sb,sc,sd,sn,sm,su,se,sq⟩:=x;exact aUb HM HL a len cap cs kd sa sb sc sd sn sm su se sq w h hx
theorem Keep.trans_new{S T:Nat→Prop}{a b c:World}(h:Keep S a b)(k:Keep T b c)(hT:∀j,j<a.heap.size→T j→S j):Keep S a c:=
 ⟨k.os.trans h.os,k.tape.trans h.tape,k.output.trans h.output,Nat.le_trans h.size k.size,fun i hi hs=>(k.block i (yM hi h.size) (fun t=>hs (hT i hi t))).trans (h.block i hi hs)⟩
theorem aH5{w:World}{b1 b2 s1 s2 n1 n2:Nat}{e1 e2:TypeId}{v1 v2:Value}{xs ys:List Value}(h:w.ownsRow b1 e1 s1 v1 n1 xs)(g:w.ownsRow b2 e2 s2 v2 n2 ys)(hne:e1≠e2):∀b,v1.ownBlock=some b→¬v2.ownBlock=some b:=fun b hb hg=>by
 obtain⟨_,_,c1,k1⟩:=aAf h hb;obtain⟨_,_,c2,k2⟩:=aAf g hg;have:=k1.symm.trans k2;simp at this;exact hne this.2
def aCk:Prop:=∀{w:World} {base G M gb:Nat} {ps:List Int} {ls:List Ln} {l:List Of} {N:Int} {vb:Value},LedM w G M ps ls→LInv ps ls→PB w base gb l N vb→BInv l N→
 ∀(s tk pt want most m1 m2:Int),(0≤s∧s≤18446744073709551615)→In8 tk→In8 pt→In64 want→In64 most→(∀o,aAs l s=some o→Goes ps ls o tk pt m1 m2)→
 Calls Tryz.prog 273 #[.agg #[.pointer (some ⟨G,0,none⟩),.pointer (some ⟨gb,0,none⟩)],.int .u64 s,.int .u8 tk,.int .u8 pt,.int .i64 want,.int .i64 most] w (yR w (.int .i64 (mayV l ps s tk pt want most m1 m2)))def FDoPost(w:World)(base G M gb:Nat)(ps:List Int)(ls:List Ln)(l:List Of)(N:Int)(vb:Value)(s tk pt n m1 m2:Int)(e:Ending)(w':World):Prop:=
 (¬doOk l ps s tk pt n m1 m2∧e=.returned (.tuple #[aId,.int .i64 1])∧Below w.heap.size w w')∨
 (doOk l ps s tk pt n m1 m2∧∃o x ls' vb',aAs l s=some o∧x=upN (n*o.nu) o.de∧aK5 ps ls o tk pt n x ls'∧e=.returned (.tuple #[.agg #[.int .u64 s,.int .u8 tk,.int .u8 pt,.int .i64 n,.int .i64 x],.int .i64 0])∧
  LedM w' G M ps ls'∧PB w' base gb (aCe l s n) N vb'∧Keep (fun k=>k=G∨k=M∨Foot gb vb k) w w'∧aEj w vb vb')
def aD4:Prop:=∀{w:World} {base G M gb:Nat} {ps:List Int} {ls:List Ln} {l:List Of} {N:Int} {vb:Value},LedM w G M ps ls→LInv ps ls→PB w base gb l N vb→BInv l N→
 ∀(s tk pt n m1 m2:Int),(0≤s∧s≤18446744073709551615)→In8 tk→In8 pt→In64 n→(∀o,aAs l s=some o→Goes ps ls o tk pt m1 m2)→
 Calls Tryz.prog 235 #[.agg #[.pointer (some ⟨G,0,none⟩),.pointer (some ⟨gb,0,none⟩)],.int .u64 s,.int .u8 tk,.int .u8 pt,.int .i64 n] w (FDoPost w base G M gb ps ls l N vb s tk pt n m1 m2)
def FCopyPost(w:World)(ps:List Int)(ls:List Ln)(l:List Of)(N:Int)(e:Ending)(w':World):Prop:=
 ∃G M gb vb,e=.returned (.agg #[.pointer (some ⟨G,0,none⟩),.pointer (some ⟨gb,0,none⟩)])∧LedM w' G M ps ls∧PB w' w.heap.size gb l N vb∧w.heap.size≤G∧w.heap.size≤M∧Below w.heap.size w w'
def aDx:Prop:=∀{w:World} {base G M gb:Nat} {ps:List Int} {ls:List Ln} {l:List Of} {N:Int} {vb:Value},LedM w G M ps ls→LInv ps ls→PB w base gb l N vb→BInv l N→
 Calls Tryz.prog 47 #[.agg #[.pointer (some ⟨G,0,none⟩),.pointer (some ⟨gb,0,none⟩)]] w (FCopyPost w ps ls l N)
theorem aR1(HMy:aCk){w:World}{base G M gb:Nat}{ps:List Int}{ls:List Ln}{l:List Of}{N:Int}{vb:Value}(hL:LedM w G M ps ls)(hI:LInv ps ls)(hP:PB w base gb l N vb)(hJ:BInv l N)
  (s tk pt want most:Int)(hs:0≤s∧s≤18446744073709551615)(ht:In8 tk)(hto:In8 pt)(hw:In64 want)(hmo:In64 most):
  Calls Tryz.prog 273 #[.agg #[.pointer (some ⟨G,0,none⟩),.pointer (some ⟨gb,0,none⟩)],.int .u64 s,.int .u8 tk,.int .u8 pt,.int .i64 want,.int .i64 most] w (yR w (.int .i64 (mayS ps ls l tk pt want most s))):=by
 obtain⟨m1,m2,g,_,_⟩:=aM3 hI l s tk pt;rw[←aPp hI g];exact HMy hL hI hP hJ s tk pt want most m1 m2 hs ht hto hw hmo g
def PDoS(w:World)(base G M gb:Nat)(ps:List Int)(ls:List Ln)(l:List Of)(N:Int)(vb:Value)(s tk pt n:Int)(e:Ending)(w':World):Prop:=
 (¬okS ps ls l tk pt n s∧e=.returned (.tuple #[aId,.int .i64 1])∧Below w.heap.size w w')∨
 (okS ps ls l tk pt n s∧∃o x vb',aAs l s=some o∧x=upN (n*o.nu) o.de∧e=.returned (.tuple #[.agg #[.int .u64 s,.int .u8 tk,.int .u8 pt,.int .i64 n,.int .i64 x],.int .i64 0])∧
  LedM w' G M ps (aC2 ps ls o tk pt n x)∧PB w' base gb (aCe l s n) N vb'∧Keep (fun k=>k=G∨k=M∨Foot gb vb k) w w'∧aEj w vb vb')
theorem aJ4(HD:aD4){w:World}{base G M gb:Nat}{ps:List Int}{ls:List Ln}{l:List Of}{N:Int}{vb:Value}(hL:LedM w G M ps ls)(hI:LInv ps ls)(hP:PB w base gb l N vb)(hJ:BInv l N)
  (s tk pt n:Int)(hs:0≤s∧s≤18446744073709551615)(ht:In8 tk)(hto:In8 pt)(hn:In64 n):
  Calls Tryz.prog 235 #[.agg #[.pointer (some ⟨G,0,none⟩),.pointer (some ⟨gb,0,none⟩)],.int .u64 s,.int .u8 tk,.int .u8 pt,.int .i64 n] w (PDoS w base G M gb ps ls l N vb s tk pt n):=by
 obtain⟨m1,m2,g,_,_⟩:=aM3 hI l s tk pt;refine(HD hL hI hP hJ s tk pt n m1 m2 hs ht hto hn g).mono ?_;rintro e w' (⟨a,b,c⟩|⟨a,o,x,ls',vb',b,c,d,f,h1,h2,h3,h4⟩)
 ·exact .inl ⟨fun q=>a ((aM6 hI g).2 q),b,c⟩
 rw[d.eq (aHu hI o tk pt n x)]at h1;exact .inr ⟨(aM6 hI g).1 a,o,x,vb',b,c,f,h1,h2,h3,h4⟩
def aBj:Int→List Int→Int
 | n,[]=>n
 | n,v::vs=>if min n v<1 then 0 else aBj (min n v) vs
structure Bnd(w:World)(rv:Value)(b:Nat×Int):Prop where
 enter:∀args w',(callFunc b.1 args).run Tryz.prog w'=.ok (.enter b.1 args) w'
 call:∀w',Below w.heap.size w w'→Calls Tryz.prog b.1 #[rv] w' fun e w''=>e=.returned (.int .i64 b.2)∧Below w'.heap.size w' w''
theorem Bnd.below{w w':World}{rv:Value}{b:Nat×Int}(h:Bnd w rv b)(k:Below w.heap.size w w'):Bnd w' rv b:=⟨h.enter,fun w2 q=>h.call w2 (andB k q)⟩
def bndV(rv:Value)(b:Nat×Int):Value:=.func (.func b.1) #[rv] #[]
def LeastAtF(W:World)(bs:List (Nat×Int))(n i:Value)(wr:World):Prop:=
 ∃(k:Nat) (m:Int),k≤bs.length∧i=.int .i64 k∧n=.int .i64 m∧(m≤1099511627776 ∧ -9223372036854775808≤m)∧Below W.heap.size W wr∧Hid (aBj 1099511627776 (bs.map (·.2))=aBj m ((bs.drop k).map (·.2)))
theorem aR2{w:World}{g:Nat}{rv:Value}{bs:List (Nat×Int)}{t:TypeId}(hk:Blk w g (bs.map (bndV rv)).toArray t)(hb:∀b∈bs,Bnd w rv b)(h64:∀b∈bs,In64 b.2)(hl:bs.length≤100):
  Calls Tryz.prog 298 #[.slice (some ⟨g,0,none⟩) bs.length bs.length] w (yR w (.int .i64 (aBj 1099511627776 (bs.map (·.2))))):=by
 have K:=yH hk;have HB:=yH hb;have H64:=yH h64;clear hk hb h64;go_enter Tryz.func298,Tryz.ntmps298;go_wp2_with fail
 go_loopw [3,8] (LeastAtF w bs) (fun _ i _=>bs.length - (intOf i).toNat)
 case atStart=>exact⟨0,_,zQ,rfl,rfl,zQ,yZ,yH rfl⟩
 obtain⟨k,m,hkl,rfl,rfl,⟨m1,m2⟩,hB,HE⟩:=hrel;have BB:=yH hB;clear hB
 by_cases hlt:k<bs.length
 ·have hki:(k:Int)<(bs.length:Int):=zQ
  have hk0:(0:Int)≤(k:Int):=zQ
  have KK:=yH (K.o.below BB.o K.o.lt);have d0:=KK.o.cell k;simp only[List.getElem?_toArray,List.getElem?_map,List.getElem?_eq_getElem hlt,Option.map_some]at d0;have HBk:=yH ((HB.o bs[k] (List.getElem_mem _)).below BB.o);have h64:=H64.o bs[k] (List.getElem_mem _);have HD:Hid (bs.drop k=bs[k]::bs.drop (k+1)):=yH (List.drop_eq_getElem_cons hlt);generalize bs[k]=b at *;obtain⟨f,v⟩:=b;unfold bndV at d0;dsimp only at d0 h64;have hv1:=h64.1;have hv2:=h64.2;clear h64;have CB:=yH (HBk.o.call wr yZ);have EN:=HBk.o.enter #[rv] wr;dsimp only at CB EN;have HM:Hid (aBj m (((f,v)::bs.drop (k+1)).map (·.2))=if min m v<1 then 0 else aBj (min m v) ((bs.drop (k+1)).map (·.2))):=yH rfl;clear HBk;go_wp2_with fail;refine CB.o.mono ?_;rintro e w1 ⟨rfl,b1⟩;have B1:=yT BB b1;clear b1 CB EN d0
  by_cases hz:min m v<1
  ·have q1:decide (min m v<1)=true:=wP
   have HZ:=yH hz;clear hz;go_wp2_with fail;go_ret;exact⟨by rw[HE.o,HD.o,HM.o.trans (if_pos HZ.o)];rfl,B1.o⟩
  have q1:decide (min m v<1)=false:=wP
  have HZ:=yH hz;clear hz;go_wp2_with fail;exact⟨⟨k+1,_,zQ,by go_num,rfl,zQ,B1.o,yH (by rw[HE.o,HD.o];exact HM.o.trans (if_neg (uV HZ.o)))⟩,zN⟩
 have hkn:k=bs.length:=zQ
 subst hkn;have HM:Hid (aBj m ((bs.drop bs.length).map (·.2))=m):=yH (by rw[List.drop_length];rfl);go_wp2_with fail;go_ret;exact⟨by rw[HE.o,HM.o];rfl,BB.o⟩
abbrev filV(lp:Option Addr)(o:Of)(tk pt want most:Int):Value:=.agg #[.pointer lp,.int .u64 o.se,.int .u8 o.ow,.int .u8 o.sl,.int .u8 o.bu,.int .i64 o.lf,.int .i64 o.nu,.int .i64 o.de,.int .u8 tk,.int .u8 pt,.int .i64 want,.int .i64 most]
abbrev filC(lp:Option Addr)(o:Of)(tk pt want most:Int):Array Value:=#[.pointer lp,.int .u64 o.se,.int .u8 o.ow,.int .u8 o.sl,.int .u8 o.bu,.int .i64 o.lf,.int .i64 o.nu,.int .i64 o.de,.int .u8 tk,.int .u8 pt,.int .i64 want,.int .i64 most]
theorem aUc(lp:Option Addr)(o:Of)(tk pt want most:Int)(w:World):Calls Tryz.prog 299 #[filV lp o tk pt want most] w (yR w (.int .i64 want)):=by
 have B:=yH ((Below.refl w.heap.size w).alloc yL (.cells (filC lp o tk pt want most) 395));unfold filV;go_enter Tryz.func299,Tryz.ntmps299;go_wp2_with fail;go_ret;exact⟨rfl,B.o⟩
theorem fleft_any(lp:Option Addr)(o:Of)(tk pt want most:Int)(w:World):Calls Tryz.prog 300 #[filV lp o tk pt want most] w (yR w (.int .i64 o.lf)):=by
 have B:=yH ((Below.refl w.heap.size w).alloc yL (.cells (filC lp o tk pt want most) 395));unfold filV;go_enter Tryz.func300,Tryz.ntmps300;go_wp2_with fail;go_ret;exact⟨rfl,B.o⟩
theorem aR3(lp:Option Addr)(o:Of)(tk pt want most:Int)(w:World):Calls Tryz.prog 317 #[filV lp o tk pt want most] w (yR w (.int .i64 most)):=by
 have B:=yH ((Below.refl w.heap.size w).alloc yL (.cells (filC lp o tk pt want most) 395));unfold filV;go_enter Tryz.func317,Tryz.ntmps317;go_wp2_with fail;go_ret;exact⟨rfl,B.o⟩
theorem fsold_any(HM:aEq){w:World}{G M:Nat}{ps:List Int}{ls:List Ln}{o:Of}(h:LedM w G M ps ls)(hI:LInv ps ls)(hf:o.Fits)(tk pt want most:Int)(hp:In8 pt){m1 m2:Int}(g:Goes ps ls o tk pt m1 m2):
  Calls Tryz.prog 301 #[filV (some ⟨G,0,none⟩) o tk pt want most] w fun e w'=>e=.returned (.int .i64 (if pt=o.ow then 1099511627776 else m1))∧Below w.heap.size w w':=by
 have bw:=(Below.refl w.heap.size w).alloc yL (.cells (filC (some ⟨G,0,none⟩) o tk pt want most) 395);have B:=yH bw;obtain⟨⟨μ,h1,h2⟩,_⟩:=g;have CM:=yH (aOi HM (h.below bw) hI hf.ow hp hf.sl h1);rw[h2]at CM;clear bw h hI hf hp h1 h2;unfold filV
 by_cases he:pt=o.ow
 ·rw[if_pos he];subst he;clear CM;go_enter Tryz.func301,Tryz.ntmps301;go_wp2_with fail;go_ret;exact⟨rfl,B.o⟩
 rw[if_neg he];have q0:(pt==o.ow)=false:=xT
 clear he;go_enter Tryz.func301,Tryz.ntmps301;go_wp2_with fail;refine CM.o.mono ?_;rintro e w1 ⟨rfl,b1⟩;have B1:=yT B b1;clear b1;go_wp2_with fail;go_ret;exact⟨rfl,B1.o⟩
theorem aUd(HM:aEq){w:World}{G M:Nat}{ps:List Int}{ls:List Ln}{o:Of}(h:LedM w G M ps ls)(hI:LInv ps ls)(hf:o.Fits)(tk pt want most:Int)(ht:In8 tk){m1 m2:Int}(g:Goes ps ls o tk pt m1 m2):
  Calls Tryz.prog 318 #[filV (some ⟨G,0,none⟩) o tk pt want most] w (yR w (.int .i64 m2)):=by
 have bw:=(Below.refl w.heap.size w).alloc yL (.cells (filC (some ⟨G,0,none⟩) o tk pt want most) 395);have B:=yH bw;obtain⟨_,μ,h1,h2⟩:=g;have CM:=yH (aOi HM (h.below bw) hI ht hf.ow hf.bu h1);rw[h2]at CM;clear bw h hI hf ht h1 h2;unfold filV;go_enter Tryz.func318,Tryz.ntmps318;go_wp2_with fail;refine CM.o.mono ?_;rintro e w1 ⟨rfl,b1⟩;have B1:=yT B b1;clear b1;go_wp2_with fail;go_ret;exact⟨rfl,B1.o⟩
theorem aR4:∀(vs:List Int) {n:Int},n≤1099511627776 → -9223372036854775808≤n→(∀v∈vs,-9223372036854775808≤v)→In64 (aBj n vs)
 | [],n,h1,h2,_=>⟨by unfold aBj;omega,by unfold aBj;omega⟩
 | v::vs,n,h1,h2,h=>by
  unfold aBj;split
  ·exact⟨zQ,zQ⟩
  rename_i hz;have:=h v (List.mem_cons_self);exact aR4 vs zQ zQ (fun x hx=>h x (List.mem_cons_of_mem _ hx))
theorem ffits_any(HM:aEq){w:World}{G M:Nat}{ps:List Int}{ls:List Ln}{o:Of}(h:LedM w G M ps ls)(hI:LInv ps ls)(hf:o.Fits)(tk pt want most:Int)(ht:In8 tk)(hm:In64 most){m1 m2:Int}(g:Goes ps ls o tk pt m1 m2):
  Calls Tryz.prog 302 #[filV (some ⟨G,0,none⟩) o tk pt want most] w (yR w (.int .i64 (fitN (aBj 1099511627776 [most,m2]) o.nu o.de))):=by
 have bw:=(Below.refl w.heap.size w).alloc yL (.cells (filC (some ⟨G,0,none⟩) o tk pt want most) 395);have KX:=yH (Blk.new w (filC (some ⟨G,0,none⟩) o tk pt want most) 395);have B:=yH bw;have hbd:=g.bd hI;have H64a:=yH hm;have H64b:Hid (In64 m2):=yH ⟨zQ,zQ⟩;have H64l:Hid (In64 (aBj 1099511627776 [most,m2])):=yH (aR4 _ zQ zQ (by intro v hv;simp only[yI,yJ,or_false]at hv;rcases hv with rfl|rfl;exact hm.1;omega));have HF:=yH hf;have L:=h.below bw
 have HA:Hid (Bnd (w.alloc (.cells (filC (some ⟨G,0,none⟩) o tk pt want most) 395)) (filV (some ⟨G,0,none⟩) o tk pt want most) (317,most)):=yH
  ⟨enters_of Tryz.func317 zW rfl,fun w' k=>aR3 _ o tk pt want most w'⟩
 have HBo:Hid (Bnd (w.alloc (.cells (filC (some ⟨G,0,none⟩) o tk pt want most) 395)) (filV (some ⟨G,0,none⟩) o tk pt want most) (318,m2)):=yH
  ⟨enters_of Tryz.func318 zW rfl,fun w' k=>aUd HM (L.below k) hI hf tk pt want most ht g⟩
 clear bw h hI hf hm hbd L g;go_enter Tryz.func302,Tryz.ntmps302
 go_upto_region 1 with fail
 generalize w.alloc (.cells #[.pointer (some ⟨G,0,none⟩),.int .u64 o.se,.int .u8 o.ow,.int .u8 o.sl,.int .u8 o.bu,.int .i64 o.lf,.int .i64 o.nu,.int .i64 o.de,.int .u8 tk,.int .u8 pt,.int .i64 want,.int .i64 most] 395)=W at *
 refine aA9 zW (fun g:Nat→Nat=>[(filV (some ⟨G,0,none⟩) o tk pt want most),(.func (.func 317) #[(filV (some ⟨G,0,none⟩) o tk pt want most)] #[]),(filV (some ⟨G,0,none⟩) o tk pt want most),(.func (.func 318) #[(filV (some ⟨G,0,none⟩) o tk pt want most)] #[]),(.slice (some ⟨g 4,0,none⟩) 2 2),(.int .i64 (aBj 1099511627776 [most,m2])),(.pointer (some ⟨w.heap.size,1,none⟩)),(.pointer (some ⟨w.heap.size,6,none⟩)),(.agg #[.int .i64 o.nu,.int .i64 o.de]),(.int .i64 (fitN (aBj 1099511627776 [most,m2]) o.nu o.de)),(.int .i64 (fitN (aBj 1099511627776 [most,m2]) o.nu o.de))])
  (Lays W [(⟨4,4,(.cells #[(.func (.func 317) #[(filV (some ⟨G,0,none⟩) o tk pt want most)] #[]),(.func (.func 318) #[(filV (some ⟨G,0,none⟩) o tk pt want most)] #[])] 124),(.cells #[(.func (.func 317) #[(filV (some ⟨G,0,none⟩) o tk pt want most)] #[]),(.func (.func 318) #[(filV (some ⟨G,0,none⟩) o tk pt want most)] #[])] 124)⟩:Spec)]) zW (fun _=>0) (Lays.start _ _ _) ?_
 intro AF hAF;simp only[yG,puts,Act.put,yA,yC,yF,yD,yE]at hAF;have hAF2:_=AF:=funext hAF;subst hAF2;clear hAF;refine⟨?_,?_⟩
 ·simp only[yG,aFp];refine⟨?_,?_,?_,?_,?_,?_,?_,?_,?_,?_,?_,trivial⟩
  ·intro g D w' hD hW hC hI;refine⟨g,fun _ _ _=>rfl,?_⟩;with_reducible refine yO rfl ?_
   have hS:=hI.below;have d0_0:=(KX.o.below hS KX.o.lt).cell 0;have d0_1:=(KX.o.below hS KX.o.lt).cell 1;have d0_2:=(KX.o.below hS KX.o.lt).cell 2;have d0_3:=(KX.o.below hS KX.o.lt).cell 3;have d0_4:=(KX.o.below hS KX.o.lt).cell 4;have d0_5:=(KX.o.below hS KX.o.lt).cell 5;have d0_6:=(KX.o.below hS KX.o.lt).cell 6;have d0_7:=(KX.o.below hS KX.o.lt).cell 7;have d0_8:=(KX.o.below hS KX.o.lt).cell 8;have d0_9:=(KX.o.below hS KX.o.lt).cell 9;have d0_10:=(KX.o.below hS KX.o.lt).cell 10;have d0_11:=(KX.o.below hS KX.o.lt).cell 11;simp at d0_0 d0_1 d0_2 d0_3 d0_4 d0_5 d0_6 d0_7 d0_8 d0_9 d0_10 d0_11;have HS:=yH (hI.step yZ (k:=0) zP);clear hI hS hC hW hD;go_wp2_with fail;all_goals first|exact HS|exact⟨rfl,HS⟩|rfl
  ·intro g D w' hD hW hC hI;refine⟨g,fun _ _ _=>rfl,?_⟩;with_reducible refine yO rfl ?_
   have HS:=yH (hI.step yZ (k:=1) zP);clear hI hC hW hD;go_wp2_with fail;all_goals first|exact HS|exact⟨rfl,HS⟩|rfl
  ·intro g D w' hD hW hC hI;refine⟨g,fun _ _ _=>rfl,?_⟩;with_reducible refine yO rfl ?_
   have hS:=hI.below;have d0_0:=(KX.o.below hS KX.o.lt).cell 0;have d0_1:=(KX.o.below hS KX.o.lt).cell 1;have d0_2:=(KX.o.below hS KX.o.lt).cell 2;have d0_3:=(KX.o.below hS KX.o.lt).cell 3;have d0_4:=(KX.o.below hS KX.o.lt).cell 4;have d0_5:=(KX.o.below hS KX.o.lt).cell 5;have d0_6:=(KX.o.below hS KX.o.lt).cell 6;have d0_7:=(KX.o.below hS KX.o.lt).cell 7;have d0_8:=(KX.o.below hS KX.o.lt).cell 8;have d0_9:=(KX.o.below hS KX.o.lt).cell 9;have d0_10:=(KX.o.below hS KX.o.lt).cell 10;have d0_11:=(KX.o.below hS KX.o.lt).cell 11;simp at d0_0 d0_1 d0_2 d0_3 d0_4 d0_5 d0_6 d0_7 d0_8 d0_9 d0_10 d0_11;have HS:=yH (hI.step yZ (k:=2) zP);clear hI hS hC hW hD;go_wp2_with fail;all_goals first|exact HS|exact⟨rfl,HS⟩|rfl
  ·intro g D w' hD hW hC hI;refine⟨g,fun _ _ _=>rfl,?_⟩;with_reducible refine yO rfl ?_
   have HS:=yH (hI.step yZ (k:=3) zP);clear hI hC hW hD;go_wp2_with fail;all_goals first|exact HS|exact⟨rfl,HS⟩|rfl
  ·intro g D w' hD hW hC hI;refine⟨upd g 4 w'.heap.size,aC7 _ (fun g:Nat→Nat=>[(filV (some ⟨G,0,none⟩) o tk pt want most),(.func (.func 317) #[(filV (some ⟨G,0,none⟩) o tk pt want most)] #[]),(filV (some ⟨G,0,none⟩) o tk pt want most),(.func (.func 318) #[(filV (some ⟨G,0,none⟩) o tk pt want most)] #[]),(.slice (some ⟨g 4,0,none⟩) 2 2),(.int .i64 (aBj 1099511627776 [most,m2])),(.pointer (some ⟨w.heap.size,1,none⟩)),(.pointer (some ⟨w.heap.size,6,none⟩)),(.agg #[.int .i64 o.nu,.int .i64 o.de]),(.int .i64 (fitN (aBj 1099511627776 [most,m2]) o.nu o.de)),(.int .i64 (fitN (aBj 1099511627776 [most,m2]) o.nu o.de))]) g 4 _ 12 hC hD ?_,?_⟩
   ·intro j hj
    match j,hj with
    | 0,_=>exact .inr rfl
    | 1,_=>exact .inr rfl
    | 2,_=>exact .inr rfl
    | 3,_=>exact .inr rfl
    | 4,_=>exact .inl (.inl rfl)
    | 5,_=>exact .inr rfl
    | 6,_=>exact .inr rfl
    | 7,_=>exact .inr rfl
    | 8,_=>exact .inr rfl
    | 9,_=>exact .inr rfl
    | 10,_=>exact .inr rfl
    | j+11,_=>exact .inr rfl
   with_reducible refine yO rfl ?_
   have HS:=yH (hI.lay (⟨4,4,(.cells #[(.func (.func 317) #[(filV (some ⟨G,0,none⟩) o tk pt want most)] #[]),(.func (.func 318) #[(filV (some ⟨G,0,none⟩) o tk pt want most)] #[])] 124),(.cells #[(.func (.func 317) #[(filV (some ⟨G,0,none⟩) o tk pt want most)] #[]),(.func (.func 318) #[(filV (some ⟨G,0,none⟩) o tk pt want most)] #[])] 124)⟩:Spec) zV zP (.inl rfl) zP (fun s' hs' _=>List.mem_singleton.1 hs') (.cells #[(.func (.func 317) #[(filV (some ⟨G,0,none⟩) o tk pt want most)] #[]),(.func (.func 318) #[(filV (some ⟨G,0,none⟩) o tk pt want most)] #[])] 124) rfl);clear hI hC hW hD;go_wp2_with fail;all_goals first|exact HS|exact⟨rfl,HS⟩|rfl
  ·intro g D w' hD hW hC hI;refine⟨g,fun _ _ _=>rfl,?_⟩;with_reducible refine yO rfl ?_
   have hS:=hI.below;have HI:=yH hI;have HC:=yH (aR2 (bs:=[(317,most),(318,m2)]) (rv:=(filV (some ⟨G,0,none⟩) o tk pt want most)) (show Blk w' (g 4) (List.map (bndV (filV (some ⟨G,0,none⟩) o tk pt want most)) [(317,most),(318,m2)]).toArray 124 from(hI.full (⟨4,4,(.cells #[(.func (.func 317) #[(filV (some ⟨G,0,none⟩) o tk pt want most)] #[]),(.func (.func 318) #[(filV (some ⟨G,0,none⟩) o tk pt want most)] #[])] 124),(.cells #[(.func (.func 317) #[(filV (some ⟨G,0,none⟩) o tk pt want most)] #[]),(.func (.func 318) #[(filV (some ⟨G,0,none⟩) o tk pt want most)] #[])] 124)⟩:Spec) zV (aA4 hC hW (d:=12) zW) (aA4 hC hW (d:=12) zW)).2) (by intro b hb;simp only[yI,yJ,or_false]at hb;rcases hb with rfl|rfl;exact HA.o.below hS;exact HBo.o.below hS) (by intro b hb;simp only[yI,yJ,or_false]at hb;rcases hb with rfl|rfl;exact H64a.o;exact H64b.o) zV);clear hI hS hC hW hD;go_wp2_with fail;refine HC.o.mono ?_;rintro e w'' ⟨rfl,hb2⟩;exact⟨rfl,HI.o.step hb2 zP⟩
  ·intro g D w' hD hW hC hI;refine⟨g,fun _ _ _=>rfl,?_⟩;with_reducible refine yO rfl ?_
   have HS:=yH (hI.step yZ (k:=6) zP);clear hI hC hW hD;go_wp2_with fail;all_goals first|exact HS|exact⟨rfl,HS⟩|rfl
  ·intro g D w' hD hW hC hI;refine⟨g,fun _ _ _=>rfl,?_⟩;with_reducible refine yO rfl ?_
   have HS:=yH (hI.step yZ (k:=7) zP);clear hI hC hW hD;go_wp2_with fail;all_goals first|exact HS|exact⟨rfl,HS⟩|rfl
  ·intro g D w' hD hW hC hI;refine⟨g,fun _ _ _=>rfl,?_⟩;with_reducible refine yO rfl ?_
   have hS:=hI.below;have d0_0:=(KX.o.below hS KX.o.lt).cell 0;have d0_1:=(KX.o.below hS KX.o.lt).cell 1;have d0_2:=(KX.o.below hS KX.o.lt).cell 2;have d0_3:=(KX.o.below hS KX.o.lt).cell 3;have d0_4:=(KX.o.below hS KX.o.lt).cell 4;have d0_5:=(KX.o.below hS KX.o.lt).cell 5;have d0_6:=(KX.o.below hS KX.o.lt).cell 6;have d0_7:=(KX.o.below hS KX.o.lt).cell 7;have d0_8:=(KX.o.below hS KX.o.lt).cell 8;have d0_9:=(KX.o.below hS KX.o.lt).cell 9;have d0_10:=(KX.o.below hS KX.o.lt).cell 10;have d0_11:=(KX.o.below hS KX.o.lt).cell 11;simp at d0_0 d0_1 d0_2 d0_3 d0_4 d0_5 d0_6 d0_7 d0_8 d0_9 d0_10 d0_11;have HS:=yH (hI.step yZ (k:=8) zP);clear hI hS hC hW hD;go_wp2_with fail;all_goals first|exact HS|exact⟨rfl,HS⟩|rfl
  ·intro g D w' hD hW hC hI;refine⟨g,fun _ _ _=>rfl,?_⟩;with_reducible refine yO rfl ?_
   have HI:=yH hI;have HC:=yH (fits_any (aBj 1099511627776 [most,m2]) o.nu o.de w' H64l.o HF.o.nu HF.o.de);clear hI hC hW hD;go_wp2_with fail;refine HC.o.mono ?_;rintro e w'' ⟨rfl,hb2⟩;exact⟨rfl,HI.o.step hb2 zP⟩
  intro g D w' hD hW hC hI;refine⟨g,fun _ _ _=>rfl,?_⟩;with_reducible refine yO rfl ?_
  have HS:=yH (hI.step yZ (k:=10) zP);clear hI hC hW hD;go_wp2_with fail;all_goals first|exact HS|exact⟨rfl,HS⟩|rfl
 intro g D w' hall hI;have B1:=yH (B.o.trans (hI.below.mono B.o.size));clear hall hI;go_wp2_with fail;go_ret;exact⟨rfl,B1.o⟩
end Go.Proofs.YtngnfdnfpiiclaaGreat
