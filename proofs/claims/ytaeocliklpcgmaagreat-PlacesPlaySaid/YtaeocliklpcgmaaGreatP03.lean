/- Pieces of one proof. -/
import Derived.Test.YtaeocliklpcgmaaGreatP02
set_option linter.all false
set_option maxHeartbeats 64000000
set_option maxRecDepth 100000
namespace Go.Proofs.YtaeocliklpcgmaaGreat
open Go.RowKit
def hitE(a b:Int)(x:Fw):Bool:=x.fr==a && x.tt==b
def capE(es:List Fw)(a b:Int):Int:=match es.find? (hitE a b)with|some x=>x.am|none=>0
theorem capE_at{es:List Fw}{a b:Int}{k:Nat}(hk:k<es.length)(hn:∀x∈es.take k,hitE a b x=false)(hx:hitE a b es[k]=true):capE es a b=es[k].am:=by
 unfold capE
 rw[List.find?_eq_some_iff_getElem.2 ⟨hx,k,hk,rfl,fun j hj=>by
  have:=hn es[j] (by rw[List.mem_take_iff_getElem];exact⟨j,by omega,rfl⟩);simp[this]⟩]
theorem aOz{es:List Fw}{a b:Int}(hn:∀x∈es,hitE a b x=false):capE es a b=0:=by
 unfold capE;rw[List.find?_eq_none.2 (fun x hx=>by simp[hn x hx])]
theorem aL6{q:Fw→Prop}{l:List Fw}{k:Nat}(h:k<l.length)(hn:∀x∈l.take k,q x)(hx:q l[k]):∀x∈l.take (k+1),q x:=by
 rw[List.take_succ_eq_append_getElem h];intro x hx';rcases List.mem_append.1 hx' with h1|h1
 ·exact hn x h1
 rw[List.mem_singleton]at h1;rw[h1];exact hx
theorem fw_cells{w:World}{b:Nat}{ls:List Fw}(h:∀j,j<ls.length*3→w.cell? ⟨b,j,none⟩=(aAp ls)[j]?){k:Nat}(hk:k<ls.length):
  w.cell? ⟨b,k*3,none⟩=some (.int .u8 ls[k].fr)∧w.cell? ⟨b,k*3+1,none⟩=some (.int .u8 ls[k].tt)∧w.cell? ⟨b,k*3+2,none⟩=some (.int .i64 ls[k].am):=by
 refine⟨?_,?_,?_⟩
 ·exact(h (k*3+0) (by omega)).trans (aB6 ls k 0 (by omega) hk)
 ·exact(h (k*3+1) (by omega)).trans (aB6 ls k 1 (by omega) hk)
 exact(h (k*3+2) (by omega)).trans (aB6 ls k 2 (by omega) hk)
def aJi(f:Int→Int→Int)(m:Nat):Fw:=⟨((m/16:Nat):Int)+1,((m%16:Nat):Int)+1,f (((m/16:Nat):Int)+1) (((m%16:Nat):Int)+1)⟩
def aF7(f:Int→Int→Int)(m:Nat):List Fw:=((List.range m).map (aJi f)).filter fun x=>decide (0<x.am)
def allE(f:Int→Int→Int):List Fw:=aF7 f 256
theorem aGx(f:Int→Int→Int)(m:Nat):aF7 f (m+1)=aF7 f m++(if 0<(aJi f m).am then [aJi f m]else []):=by
 unfold aF7;rw[List.range_succ,List.map_append,List.filter_append];congr 1;simp only[List.map_cons,List.map_nil,List.filter_cons,List.filter_nil,decide_eq_true_eq]
theorem aQ6(f:Int→Int→Int){p q:Nat}(hq:q<16):aJi f (p*16+q)=⟨(p:Int)+1,(q:Int)+1,f ((p:Int)+1) ((q:Int)+1)⟩:=by
 unfold aJi;rw[show(p*16+q)/16=p by omega,show(p*16+q)%16=q by omega]
theorem aH7(f:Int→Int→Int)(m:Nat):(aF7 f m).length≤m:=by
 unfold aF7;exact Nat.le_trans (List.length_filter_le _ _) (by simp)
def capF(es:List Fw)(a b n:Int)(p q:Int):Int:=if p=a∧q=b then n else capE es p q
def setE(es:List Fw)(a b n:Int):List Fw:=allE (capF es a b n)
structure RefG(w:World)(base g:Nat)(es:List Fw)(vl:Value):Prop where
 blk:Blk w g #[vl] 256
 ge:base≤g
 row:w.ownsRow base 220 3 vl es.length (aAp es)
theorem RefG.keep{S:Nat→Prop}{w w':World}{base g:Nat}{es:List Fw}{vl:Value}(h:RefG w base g es vl)(k:Keep S w w')(h1:¬S g)(h2:∀b,vl.ownBlock=some b→¬S b):RefG w' base g es vl:=⟨h.blk.keep k h1,h.ge,aAl h.row k h2⟩
theorem RefG.below{w w':World}{base g:Nat}{es:List Fw}{vl:Value}(h:RefG w base g es vl)(k:Below w.heap.size w w'):RefG w' base g es vl:=h.keep (pAE (S:=fun _=>False) k) id (fun _ _=>id)
theorem aIv{P:Program}{ops:Array Oper}{rest:List Oper}{w w':World}{o:Oper}{a:Act}{Q:Exit→Act→World→Prop}(hgd:o.guard=none)(y x:Operand)(t:TypeId){u v v':Value}
  (ho:o.op=.call { callee:=.builtin .append,args:=#[y,x],argTypes:=#[t,t] })(hy:a.eval y=u)(hx:a.eval x=v)
  (hr:(Builtin.append_ #[t,t] o.type #[u,v]).run P w=.ok v' w')(h:wpList P ops Q rest (a.put o.dst v') w'):wpList P ops Q (o::rest) a w:=
 wpList_plain hgd fun K hK=>by
  unfold Oper.wp execOp;simp only[ho,resolve,invoke,builtin,Sem.run_bind,Sem.run_pure,Result.andThen_ok,List.map_toArray,List.map_cons,List.map_nil,hy,hx,hr];exact hK _ _ h
theorem aH8{w:World}{base g:Nat}{es:List Fw}{vl:Value}(h:RefG w base g es vl)(a b:Int):
  Calls Tryz.prog 196 #[.pointer (some ⟨g,0,none⟩),.int .u8 a,.int .u8 b] w (yV w (.int .i64 (capE es a b))):=by
 obtain⟨ao,cap,rfl,hc1,hc2,hc3,hc4⟩:=aAd h.row;have HC:=yH hc4;have hg:=h.blk.lt;have dg:=h.blk.cell 0;simp at dg;unfold maxLen at hc2;clear hc3 hc4 h;go_enter Tryz.func196,Tryz.ntmps196;go_wp2_with fail
 go_loopw [7] (fun i wr=>∃k:Nat,k≤es.length∧i=.int .i64 k∧Hid (∀x∈es.take k,hitE a b x=false)∧wr=w) (fun i _=>es.length - (intOf i).toNat)
 case atStart=>exact⟨0,Nat.zero_le _,rfl,yH (by simp),rfl⟩
 obtain⟨k,hk,rfl,hn,rfl⟩:=hrel
 by_cases hkl:k<es.length
 ·obtain⟨bl,rfl,hb1,hb2,hcell,_⟩:=HC.out (by omega);obtain⟨e0,e1,e2⟩:=fw_cells hcell hkl;have FA:=yH (fun hx=>capE_at (a:=a) (b:=b) hkl hn.out hx);have TN:=yH (fun hx=>aL6 (q:=fun x=>hitE a b x=false) hkl hn.out hx);clear hcell hn;generalize es[k]=x at *
  by_cases ha:(x.fr==a)=true
  ·by_cases hb:(x.tt==b)=true
   ·have E:=yH (FA.out (by unfold hitE;rw[ha,hb];rfl));clear FA TN;go_wp2_with fail;go_ret;exact⟨by rw[E.out];rfl,rfl⟩
   have hb:(x.tt==b)=false:=by simpa using hb
   have E:=yH (TN.out (by unfold hitE;rw[hb];simp));clear FA TN;go_wp2_with fail;go_roundw
   case rel=>exact⟨k+1,by omega,by go_num,E,by first|rfl|trivial⟩
   case measure=>simp[intOf];omega
  have ha:(x.fr==a)=false:=by simpa using ha
  have E:=yH (TN.out (by unfold hitE;rw[ha];simp));clear FA TN;go_wp2_with fail;go_roundw
  case rel=>exact⟨k+1,by omega,by go_num,E,by first|rfl|trivial⟩
  case measure=>simp[intOf];omega
 have E:Hid (capE es a b=0):=yH (aOz (by have:=hn.out;rwa [List.take_of_length_le (by omega)]at this));clear hn;go_wp2_with fail;go_ret;exact⟨by rw[E.out];rfl,rfl⟩
def SetGAt(w:World)(es:List Fw)(a b n:Int)(v i:Value)(wr:World):Prop:=
 ∃(p:Nat) (P:Int),Hid (P=(p:Int)+1)∧1≤P∧P≤17∧i=.int .u8 P∧wr.ownsRow w.heap.size 220 3 v (aF7 (capF es a b n) (p*16)).length (aAp (aF7 (capF es a b n) (p*16)))∧Below w.heap.size w wr
def SetGIn(w:World)(es:List Fw)(a b n:Int)(p:Nat)(v i:Value)(wr:World):Prop:=
 ∃(q:Nat) (Q:Int),Hid (Q=(q:Int)+1)∧1≤Q∧Q≤17∧i=.int .u8 Q∧wr.ownsRow w.heap.size 220 3 v (aF7 (capF es a b n) (p*16+q)).length (aAp (aF7 (capF es a b n) (p*16+q)))∧Below w.heap.size w wr
theorem aMh{w:World}{base g:Nat}{es:List Fw}{vl:Value}(h:RefG w base g es vl)(a b n:Int):
  Calls Tryz.prog 218 #[.pointer (some ⟨g,0,none⟩),.int .u8 a,.int .u8 b,.int .i64 n] w fun e w'=>e=.returned (.tuple #[])∧∃vl',RefG w' base g (setE es a b n) vl'∧Keep (·=g) w w'∧∀b,vl'.ownBlock=some b→w.heap.size≤b:=by
 have H:=yH h;have hg:=h.blk.lt;clear h;go_enter Tryz.func218,Tryz.ntmps218;go_wp2_with fail
 go_loopw [8,9] (SetGAt w es a b n) (fun _ i _=>17 - (intOf i).toNat)
 case atStart=>exact⟨0,1,yH rfl,by omega,by omega,rfl,World.ownsRow_nil _ _ _ _,yZ⟩
 obtain⟨p,P,hP,hP1,hP2,rfl,hown,hb⟩:=hrel;have dg:=(H.out.blk.below hb hg).cell 0;simp at dg;have hgr:=(H.out.blk.below hb hg).lt
 by_cases hpl:p<16
 ·have hP3:P≤16:=by have:=hP.out;omega
  have O3:=yH hown;have B3:=yH hb;clear hown hb dg hgr;go_wp2_with fail
  go_loopw [8,10] (SetGIn w es a b n p) (fun _ i _=>17 - (intOf i).toNat)
  case atStart=>exact⟨0,1,yH rfl,by omega,by omega,rfl,O3.out,B3.out⟩
  obtain⟨q,Q,hQ,hQ1,hQ2,rfl,hown,hb⟩:=hrel;have dg:=(H.out.blk.below hb hg).cell 0;simp at dg;have hgr:=(H.out.blk.below hb hg).lt
  by_cases hql:q<16
  ·have NX:=yH (aGx (capF es a b n) (p*16+q));rw[aQ6 _ hql,←hP.out,←hQ.out]at NX;have hlo:=aH7 (capF es a b n) (p*16+q);have hQ3:Q≤16:=by have:=hQ.out;omega
   have C:=yH (aH8 (H.out.below hb) P Q);generalize aF7 (capF es a b n) (p*16+q)=out at *;obtain⟨y,hy⟩:∃y,Hid (capE es P Q=y):=⟨_,yH rfl⟩;rw[hy.out]at C;have hl2:out.length≤100000:=by omega
   have A0:=(Below.refl wr.heap.size wr).alloc yL (.cells #[.int .u8 P,.int .u8 Q,.int .i64 y] 220);have K0:=pAA wr #[.int .u8 P,.int .u8 Q,.int .i64 y] 220;have hwy:w.heap.size≤wr.heap.size:=hb.size;have rowlt:∀k,Value.ownBlock _=some k→k<wr.heap.size:=fun k hk=>(aAe hown hk).2.1
   go_wp2_with fail;refine C.out.mono ?_;rintro e wr ⟨rfl,rfl⟩
   by_cases ha:P=a
   ·subst ha
    by_cases hb2:Q=b
    ·subst hb2;have hz:capF es P Q n P Q=n:=by unfold capF;rw[if_pos ⟨rfl,rfl⟩]
     rw[hz]at NX;have kk:=(Keep.refl (·=wr.heap.size) (wr.alloc (.cells #[.int .u8 P,.int .u8 Q,.int .i64 y] 220))).setCell (p:=⟨wr.heap.size,2,none⟩) (.inl rfl) (.int .i64 n);have KY:=yH (K0.set 2 (.int .i64 n));simp only[yF,yD,yE]at KY;have OY:=yH (aAl (hown.alloc (.cells #[.int .u8 P,.int .u8 Q,.int .i64 y] 220)) kk (fun b hb e=>by have:=rowlt b hb;omega));have BY:=yH ((hb.trans (A0.mono hb.size)).trans (kk.below (hb.trans (A0.mono hb.size)).size (fun b hb e=>by omega)));have z0:wr.heap.size+1≤((wr.alloc (.cells #[.int .u8 P,.int .u8 Q,.int .i64 y] 220)).setCell ⟨wr.heap.size,2,none⟩ (.int .i64 n)).heap.size:=by simp
     clear hown hb A0 K0 kk hz rowlt C;generalize hW:(wr.alloc (.cells #[.int .u8 P,.int .u8 Q,.int .i64 y] 220)).setCell ⟨wr.heap.size,2,none⟩ (.int .i64 n)=Wy at *;have y0:=KY.out.cell 0;have y1:=KY.out.cell 1;have y2:=KY.out.cell 2;simp at y0 y1 y2
     by_cases hp:0<n
     ·have q3:decide (0<n)=true:=by simpa using hp
      rw[if_pos hp]at NX;clear hp;go_wp2_with (at_builtin;refine aC8 _ rfl (.tmp 40) (.tmp 42) rfl w.heap.size _ out rfl (OY.out.alloc _) _ _ (⟨P,Q,n⟩:Fw) rfl (pAA _ _ _) hl2 (by simp;omega) ?_);intro v3 w3 hown3 hgr3;have R2:∀k,Value.ownBlock _=some k→w.heap.size≤k:=fun k hk=>(aAe OY.out hk).1
      have B3:=yH ((BY.out.alloc BY.out.size _).grown hgr3 (by simp;have:=BY.out.size;omega) (fun k hk=>R2 k hk));have O3:=yH (show w3.ownsRow w.heap.size 220 3 v3 (out++[(⟨P,Q,n⟩:Fw)]).length (aAp (out++[(⟨P,Q,n⟩:Fw)])) by simpa using hown3);clear R2 hown3 hgr3;go_wp2_with fail;go_roundw
      case rel=>exact⟨q+1,Q+1,yH (by have:=hQ.out;omega),by omega,by omega,by go_num,by rw[show p*16+(q+1)=p*16+q+1 by omega,NX.out];exact O3.out,B3.out⟩
      case measure=>simp[intOf];omega
     have q3:decide (0<n)=false:=by simpa using hp
     rw[if_neg hp,List.append_nil]at NX;clear hp;go_wp2_with fail;go_roundw
     case rel=>exact⟨q+1,Q+1,yH (by have:=hQ.out;omega),by omega,by omega,by go_num,by rw[show p*16+(q+1)=p*16+q+1 by omega,NX.out];exact OY.out,BY.out⟩
     case measure=>simp[intOf];omega
    have hb2:(Q==b)=false:=by simpa using hb2
    have hz:capF es P b n P Q=y:=by unfold capF;rw[if_neg (fun h=>by simp[h.2]at hb2),hy.out]
    rw[hz]at NX;have KY:=yH K0;have OY:=yH (hown.alloc (.cells #[.int .u8 P,.int .u8 Q,.int .i64 y] 220));have BY:=yH (hb.trans (A0.mono hb.size));have z0:wr.heap.size+1≤(wr.alloc (.cells #[.int .u8 P,.int .u8 Q,.int .i64 y] 220)).heap.size:=by simp
    clear hown hb A0 K0 hz rowlt C;generalize hW:(wr.alloc (.cells #[.int .u8 P,.int .u8 Q,.int .i64 y] 220))=Wy at *;have y0:=KY.out.cell 0;have y1:=KY.out.cell 1;have y2:=KY.out.cell 2;simp at y0 y1 y2
    by_cases hp:0<y
    ·have q3:decide (0<y)=true:=by simpa using hp
     rw[if_pos hp]at NX;clear hp;go_wp2_with (at_builtin;refine aC8 _ rfl (.tmp 40) (.tmp 42) rfl w.heap.size _ out rfl (OY.out.alloc _) _ _ (⟨P,Q,y⟩:Fw) rfl (pAA _ _ _) hl2 (by simp;omega) ?_);intro v3 w3 hown3 hgr3;have R2:∀k,Value.ownBlock _=some k→w.heap.size≤k:=fun k hk=>(aAe OY.out hk).1
     have B3:=yH ((BY.out.alloc BY.out.size _).grown hgr3 (by simp;have:=BY.out.size;omega) (fun k hk=>R2 k hk));have O3:=yH (show w3.ownsRow w.heap.size 220 3 v3 (out++[(⟨P,Q,y⟩:Fw)]).length (aAp (out++[(⟨P,Q,y⟩:Fw)])) by simpa using hown3);clear R2 hown3 hgr3;go_wp2_with fail;go_roundw
     case rel=>exact⟨q+1,Q+1,yH (by have:=hQ.out;omega),by omega,by omega,by go_num,by rw[show p*16+(q+1)=p*16+q+1 by omega,NX.out];exact O3.out,B3.out⟩
     case measure=>simp[intOf];omega
    have q3:decide (0<y)=false:=by simpa using hp
    rw[if_neg hp,List.append_nil]at NX;clear hp;go_wp2_with fail;go_roundw
    case rel=>exact⟨q+1,Q+1,yH (by have:=hQ.out;omega),by omega,by omega,by go_num,by rw[show p*16+(q+1)=p*16+q+1 by omega,NX.out];exact OY.out,BY.out⟩
    case measure=>simp[intOf];omega
   have ha:(P==a)=false:=by simpa using ha
   have hz:capF es a b n P Q=y:=by unfold capF;rw[if_neg (fun h=>by simp[h.1]at ha),hy.out]
   rw[hz]at NX;have KY:=yH K0;have OY:=yH (hown.alloc (.cells #[.int .u8 P,.int .u8 Q,.int .i64 y] 220));have BY:=yH (hb.trans (A0.mono hb.size));have z0:wr.heap.size+1≤(wr.alloc (.cells #[.int .u8 P,.int .u8 Q,.int .i64 y] 220)).heap.size:=by simp
   clear hown hb A0 K0 hz rowlt C;generalize hW:(wr.alloc (.cells #[.int .u8 P,.int .u8 Q,.int .i64 y] 220))=Wy at *;have y0:=KY.out.cell 0;have y1:=KY.out.cell 1;have y2:=KY.out.cell 2;simp at y0 y1 y2
   by_cases hp:0<y
   ·have q3:decide (0<y)=true:=by simpa using hp
    rw[if_pos hp]at NX;clear hp;go_wp2_with (at_builtin;refine aC8 _ rfl (.tmp 40) (.tmp 42) rfl w.heap.size _ out rfl (OY.out.alloc _) _ _ (⟨P,Q,y⟩:Fw) rfl (pAA _ _ _) hl2 (by simp;omega) ?_);intro v3 w3 hown3 hgr3;have R2:∀k,Value.ownBlock _=some k→w.heap.size≤k:=fun k hk=>(aAe OY.out hk).1
    have B3:=yH ((BY.out.alloc BY.out.size _).grown hgr3 (by simp;have:=BY.out.size;omega) (fun k hk=>R2 k hk));have O3:=yH (show w3.ownsRow w.heap.size 220 3 v3 (out++[(⟨P,Q,y⟩:Fw)]).length (aAp (out++[(⟨P,Q,y⟩:Fw)])) by simpa using hown3);clear R2 hown3 hgr3;go_wp2_with fail;go_roundw
    case rel=>exact⟨q+1,Q+1,yH (by have:=hQ.out;omega),by omega,by omega,by go_num,by rw[show p*16+(q+1)=p*16+q+1 by omega,NX.out];exact O3.out,B3.out⟩
    case measure=>simp[intOf];omega
   have q3:decide (0<y)=false:=by simpa using hp
   rw[if_neg hp,List.append_nil]at NX;clear hp;go_wp2_with fail;go_roundw
   case rel=>exact⟨q+1,Q+1,yH (by have:=hQ.out;omega),by omega,by omega,by go_num,by rw[show p*16+(q+1)=p*16+q+1 by omega,NX.out];exact OY.out,BY.out⟩
   case measure=>simp[intOf];omega
  have hq:q=16:=by have:=hQ.out;omega
  subst hq;have hQ3:¬Q≤16:=by have:=hQ.out;omega
  have O4:=yH hown;have B4:=yH hb;clear hown hb;go_wp2_with fail;go_roundw
  case rel=>exact⟨p+1,P+1,yH (by have:=hP.out;omega),by omega,by omega,by go_num,by rw[show(p+1)*16=p*16+16 by omega];exact O4.out,B4.out⟩
  case measure=>simp[intOf];omega
 have hp:p=16:=by have:=hP.out;omega
 subst hp;have hP3:¬P≤16:=by have:=hP.out;omega
 have O0:=yH (show wr.ownsRow w.heap.size 220 3 _ (setE es a b n).length (aAp (setE es a b n))from hown);have B0:=yH hb;have HBk:=yH (H.out.blk.below hb hg);have hf:=HBk.out.frozen;obtain⟨ao3,cap3,hv3,_⟩:=aAd O0.out;subst hv3;clear hown hb;go_wp2_with fail;go_end0;have kk:Keep (·=g) wr (wr.setCell ⟨g,0,none⟩ (.slice ao3 (setE es a b n).length cap3)):=Keep.setCell (S:=(·=g)) (Keep.refl _ _) (p:=⟨g,0,none⟩) (.inl rfl) _;refine⟨rfl,.slice ao3 (setE es a b n).length cap3,⟨?_,H.out.ge,?_⟩,(pAE B0.out).trans kk,fun b hb=>(aAe O0.out hb).1⟩
 ·have:=HBk.out.set 0 (.slice ao3 (setE es a b n).length cap3);simpa using this
 exact aAl (aA4 O0.out (by have:=H.out.ge;omega)) kk (aAi O0.out HBk.out (by decide))
def aGa(es:List Fw)(a b n:Int):Int:=if n<1 then 1 else if capE es a b<n then 11 else 0
def aG9(es:List Fw)(a b n:Int):List Fw:=if aGa es a b n=0 then setE (setE es a b (capE es a b - n)) b a (capE es b a+n)else es
def CapB(es:List Fw)(B:Int):Prop:=∀x∈es,0<x.am∧x.am≤B
theorem capE_bd{es:List Fw}{B:Int}(h:CapB es B)(h0:0≤B)(a b:Int):0≤capE es a b∧capE es a b≤B:=by
 unfold capE
 cases hf:es.find? (hitE a b)with
 | none=>exact⟨Int.le_refl _,h0⟩
 | some x=>have:=h x (List.mem_of_find?_eq_some hf);exact⟨by show 0≤x.am;omega,this.2⟩
def PushGPostF(base g:Nat)(es:List Fw)(vl:Value)(a b n:Int)(w:World)(e:Ending)(w':World):Prop:=
 e=.returned (.int .i64 (aGa es a b n))∧∃vl',RefG w' base g (aG9 es a b n) vl'∧Keep (·=g) w w'∧(vl'=vl∨∀b,vl'.ownBlock=some b→w.heap.size≤b)
theorem aO0{w:World}{base g:Nat}{es:List Fw}{vl:Value}{B:Int}(h:RefG w base g es vl)(hB:CapB es B)(h0:0≤B)(hB2:B≤4611686018427387903)(a b n:Int):
  Calls Tryz.prog 197 #[.pointer (some ⟨g,0,none⟩),.int .u8 a,.int .u8 b,.int .i64 n] w (PushGPostF base g es vl a b n w):=by
 have H:=yH h;clear h
 by_cases h1:n<1
 ·have E:Hid (aGa es a b n=1∧aG9 es a b n=es):=yH (by unfold aG9 aGa;simp[h1]);go_enter Tryz.func197,Tryz.ntmps197;go_wp2_with fail;go_ret;exact⟨by rw[E.out.1];rfl,vl,by rw[E.out.2];exact H.out,Keep.refl _ _,.inl rfl⟩
 have hbd:=capE_bd hB h0 a b;have hbd2:=capE_bd hB h0 b a;have C:=yH (aH8 H.out a b)
 by_cases h2:capE es a b<n
 ·have E:Hid (aGa es a b n=11∧aG9 es a b n=es):=yH (by unfold aG9 aGa;simp[h1,h2]);generalize capE es a b=m at *;go_enter Tryz.func197,Tryz.ntmps197;go_wp2_with fail;refine C.out.mono ?_;rintro e w ⟨rfl,rfl⟩;go_wp2_with fail;go_ret;exact⟨by rw[E.out.1];rfl,vl,by rw[E.out.2];exact H.out,Keep.refl _ _,.inl rfl⟩
 have E:Hid (aGa es a b n=0∧aG9 es a b n=setE (setE es a b (capE es a b - n)) b a (capE es b a+n)):=yH (by unfold aG9 aGa;simp[h1,h2]);have C2:=yH (aH8 H.out b a);have C3:=yH (aMh H.out a b (capE es a b - n));generalize hm:capE es a b=m at *;generalize hk:capE es b a=k at *;clear hm hk;have q2:decide (m<n)=false:=by simp;omega
 go_enter Tryz.func197,Tryz.ntmps197;go_wp2_with fail;refine C.out.mono ?_;rintro e w ⟨rfl,rfl⟩;go_wp2_with fail;refine C2.out.mono ?_;rintro e w ⟨rfl,rfl⟩;go_wp2_with fail;refine C.out.mono ?_;rintro e w ⟨rfl,rfl⟩;go_wp2_with fail;refine C3.out.mono ?_;rintro e w3 ⟨rfl,vl3,hr3,k3,_⟩;have R3:=yH hr3;have K3:=yH k3;clear hr3 k3 C C2 C3;have C4:=yH (aMh R3.out b a (k+n));go_wp2_with fail;refine C4.out.mono ?_;rintro e w4 ⟨rfl,vl4,hr4,k4,n4⟩;have R4:=yH hr4;have K4:=yH (K3.out.trans k4);have N4:=yH (show ∀b,vl4.ownBlock=some b→_≤b from fun b hb=>Nat.le_trans K3.out.size (n4 b hb));clear hr4 k4 n4 C4 R3 K3;go_wp2_with fail;go_ret;exact⟨by rw[E.out.1];rfl,vl4,by rw[E.out.2];exact R4.out,K4.out,.inr N4.out⟩
def CopyGPost(base:Nat)(es:List Fw)(w:World)(e:Ending)(w':World):Prop:=
 ∃g' vl',e=.returned (.pointer (some ⟨g',0,none⟩))∧RefG w' base g' es vl'∧w.heap.size≤g'∧(∀b,vl'.ownBlock=some b→w.heap.size≤b)∧Below w.heap.size w w'
theorem rcopyG_any{w:World}{base g:Nat}{es:List Fw}{vl:Value}(h:RefG w base g es vl)(hl:es.length≤1000):
  Calls Tryz.prog 194 #[.pointer (some ⟨g,0,none⟩)] w (CopyGPost base es w):=by
 obtain⟨v',w2,hrun,how,hbel⟩:=aCs (P:=Tryz.prog) (w:=w) 214 214 220 aNi Tryz.underlying214 rfl (by decide) (by decide) base _ _ _ h.row (aKs es) (by omega);have dg:=h.blk.cell 0;simp at dg;have hg:=h.blk.lt;have hge:=h.ge;have HR:=yH hrun;have HO:=yH how;have HB:=yH hbel;clear h hrun how hbel;go_enter Tryz.func194,Tryz.ntmps194;obtain⟨ao,cap,hv,_⟩:=aAd HO.out;subst hv;go_wp2_with (at_builtin;refine aIv rfl (.const (.slice none 0 0)) (.tmp 6) 214 rfl rfl rfl HR.out ?_);go_ret;have bw:=(Below.refl w2.heap.size w2).alloc yL (.cells #[.slice ao es.length cap] 256);exact⟨w2.heap.size,_,rfl,⟨pAA _ _ _,by have:=HB.out.size;omega,aA4 (aAc HO.out bw) (by omega)⟩,HB.out.size,fun b hb=>(aAe HO.out hb).1,HB.out.trans (bw.mono HB.out.size)⟩
theorem aNj{a b:Int}{x:Fw}:hitE a b x=true↔x.fr=a∧x.tt=b:=by unfold hitE;simp
theorem prefE_mem{f:Int→Int→Int}{m:Nat}{x:Fw}:x∈aF7 f m↔∃i,i<m∧aJi f i=x∧0<x.am:=by
 unfold aF7;simp only[List.mem_filter,List.mem_map,List.mem_range,decide_eq_true_eq]
 constructor
 ·rintro⟨⟨i,hi,he⟩,h⟩;exact⟨i,hi,he,h⟩
 rintro⟨i,hi,he,h⟩;exact⟨⟨i,hi,he⟩,h⟩
def inP(p:Int):Prop:=1≤p∧p≤16
theorem aFs{f:Int→Int→Int}{x:Fw}:x∈allE f↔inP x.fr∧inP x.tt∧x.am=f x.fr x.tt∧0<x.am:=by
 unfold allE;rw[prefE_mem]
 constructor
 ·rintro⟨i,hi,he,h⟩;unfold aJi at he;subst he;refine⟨⟨?_,?_⟩,⟨?_,?_⟩,rfl,h⟩ <;> dsimp only <;> omega
 rintro⟨⟨h1,h2⟩,⟨h3,h4⟩,h5,h6⟩;refine⟨(x.fr.toNat - 1)*16+(x.tt.toNat - 1),by omega,?_,h6⟩;rw[aQ6 f (by omega)];have e1:((x.fr.toNat - 1:Nat):Int)+1=x.fr:=by omega
 have e2:((x.tt.toNat - 1:Nat):Int)+1=x.tt:=by omega
 rw[e1,e2,←h5]
theorem aO1{f:Int→Int→Int}{p q:Int}(hp:inP p)(hq:inP q):capE (allE f) p q=if 0<f p q then f p q else 0:=by
 unfold capE
 cases hf:(allE f).find? (hitE p q)with
 | some x=>
  have h1:=aNj.1 (List.find?_some hf);have h2:=aFs.1 (List.mem_of_find?_eq_some hf);obtain⟨rfl,rfl⟩:=h1;have h3:0<f x.fr x.tt:=by have:=h2.2.2.1;have:=h2.2.2.2;omega
  rw[if_pos h3];exact h2.2.2.1
 | none=>
  by_cases h3:0<f p q
  ·have:=List.find?_eq_none.1 hf ⟨p,q,f p q⟩ (aFs.2 ⟨hp,hq,rfl,h3⟩);exact absurd (aNj.2 ⟨rfl,rfl⟩) this
  rw[if_neg h3]
theorem capE_out{f:Int→Int→Int}{p q:Int}(h:¬(inP p∧inP q)):capE (allE f) p q=0:=by
 refine aOz fun x hx=>?_
 have h2:=aFs.1 hx
 cases hh:hitE p q x with
 | false=>rfl
 | true=>
  obtain⟨rfl,rfl⟩:=aNj.1 hh;exact absurd ⟨h2.1,h2.2.1⟩ h
theorem aKt{f g:Int→Int→Int}(h:∀p q,inP p→inP q→f p q=g p q∨(f p q≤0∧g p q≤0)):∀m,m≤256→aF7 f m=aF7 g m
 | 0,_=>rfl
 | m+1,hm=>by
  rw[aGx,aGx,aKt h m (by omega)];congr 1;have h1:=h (((m/16:Nat):Int)+1) (((m%16:Nat):Int)+1) ⟨by omega,by omega⟩ ⟨by omega,by omega⟩;unfold aJi;dsimp only;rcases h1 with h1|⟨h1,h2⟩
  ·rw[h1]
  rw[if_neg (by omega),if_neg (by omega)]
theorem allE_congr{f g:Int→Int→Int}(h:∀p q,inP p→inP q→f p q=g p q∨(f p q≤0∧g p q≤0)):allE f=allE g:=aKt h 256 yL
def updE(f:Int→Int→Int)(a b n p q:Int):Int:=if p=a∧q=b then n else f p q
theorem aO2(f:Int→Int→Int)(a b n:Int):setE (allE f) a b n=allE (updE f a b n):=by
 unfold setE;refine allE_congr fun p q hp hq=>?_
 unfold capF updE
 by_cases h:p=a∧q=b
 ·rw[if_pos h,if_pos h];exact .inl rfl
 rw[if_neg h,if_neg h,aO1 hp hq]
 by_cases h2:0<f p q
 ·rw[if_pos h2];exact .inl rfl
 rw[if_neg h2];exact .inr ⟨by omega,by omega⟩
theorem CapB.all{f:Int→Int→Int}{B:Int}(h:∀p q,inP p→inP q→f p q≤B):CapB (allE f) B:=by
 intro x hx;have:=aFs.1 hx;exact⟨this.2.2.2,by rw[this.2.2.1];exact h _ _ this.1 this.2.1⟩
structure GInv(f:Int→Int→Int)(B:Int):Prop where
 nn:∀p q,0≤f p q
 pair:∀p q,f p q+f q p≤B
 out:∀p q,¬(inP p∧inP q)→f p q=0
 self:∀p,f p p=0
theorem GInv.le{f:Int→Int→Int}{B:Int}(h:GInv f B)(p q:Int):f p q≤B:=by have:=h.pair p q;have:=h.nn q p;omega
theorem GInv.cap{f:Int→Int→Int}{B:Int}(h:GInv f B)(p q:Int):capE (allE f) p q=f p q:=by
 by_cases hi:inP p∧inP q
 ·rw[aO1 hi.1 hi.2]
  by_cases h0:0<f p q
  ·rw[if_pos h0]
  rw[if_neg h0];have:=h.nn p q;omega
 rw[capE_out hi,h.out p q hi]
theorem GInv.capB{f:Int→Int→Int}{B:Int}(h:GInv f B):CapB (allE f) B:=CapB.all fun p q _ _=>h.le p q
theorem GInv.ends{f:Int→Int→Int}{B:Int}(h:GInv f B){p q:Int}(h0:0<f p q):inP p∧inP q∧p≠q:=by
 by_cases hi:inP p∧inP q
 ·refine⟨hi.1,hi.2,?_⟩;rintro rfl;have:=h.self p;omega
 have:=h.out p q hi;omega
def aG7(_ _:Int):Int:=0
theorem GInv.zero{B:Int}(h:0≤B):GInv aG7 B:=⟨fun _ _=>Int.le_refl _,fun _ _=>by unfold aG7;omega,fun _ _ _=>rfl,fun _=>rfl⟩
def aCd(f:Int→Int→Int)(a b n p q:Int):Int:=if p=b∧q=a then f b a+n else if p=a∧q=b then f a b - n else f p q
theorem GInv.push{f:Int→Int→Int}{B:Int}(h:GInv f B){a b n:Int}(h1:1≤n)(h2:n≤f a b):GInv (aCd f a b n) B:=by
 obtain⟨ha,hb,hne⟩:=h.ends (p:=a) (q:=b) (by omega);have hba:=h.nn b a;refine⟨fun p q=>?_,fun p q=>?_,fun p q hi=>?_,fun p=>?_⟩
 ·unfold aCd;have:=h.nn p q;split
  ·omega
  split <;> omega
 ·have hp:=h.pair p q;have hab:=h.pair a b
  by_cases c1:p=b∧q=a
  ·obtain⟨rfl,rfl⟩:=c1;have e1:aCd f q p n p q=f p q+n:=by unfold aCd;rw[if_pos ⟨rfl,rfl⟩]
   have e2:aCd f q p n q p=f q p - n:=by unfold aCd;rw[if_neg (fun e=>hne e.1),if_pos ⟨rfl,rfl⟩]
   omega
  by_cases c2:p=a∧q=b
  ·obtain⟨rfl,rfl⟩:=c2;have e1:aCd f p q n p q=f p q - n:=by unfold aCd;rw[if_neg (fun e=>hne e.1),if_pos ⟨rfl,rfl⟩]
   have e2:aCd f p q n q p=f q p+n:=by unfold aCd;rw[if_pos ⟨rfl,rfl⟩]
   omega
  have e1:aCd f a b n p q=f p q:=by unfold aCd;rw[if_neg c1,if_neg c2]
  have e2:aCd f a b n q p=f q p:=by unfold aCd;rw[if_neg (fun e=>c2 ⟨e.2,e.1⟩),if_neg (fun e=>c1 ⟨e.2,e.1⟩)]
  omega
 ·unfold aCd;rw[if_neg (fun e=>hi ⟨by rw[e.1];exact hb,by rw[e.2];exact ha⟩),if_neg (fun e=>hi ⟨by rw[e.1];exact ha,by rw[e.2];exact hb⟩)];exact h.out p q hi
 unfold aCd;rw[if_neg (fun e=>hne (e.2.symm.trans e.1)),if_neg (fun e=>hne (e.1.symm.trans e.2))];exact h.self p
theorem aKu{f:Int→Int→Int}{B:Int}(h:GInv f B)(a b n:Int):aGa (allE f) a b n=if n<1 then 1 else if f a b<n then 11 else 0:=by
 unfold aGa;rw[h.cap]
theorem aQ7{f:Int→Int→Int}{B:Int}(h:GInv f B)(a b n:Int):aG9 (allE f) a b n=if 1≤n∧n≤f a b then allE (aCd f a b n)else allE f:=by
 unfold aG9;rw[aKu h,h.cap,h.cap]
 by_cases h1:n<1
 ·rw[if_pos h1,if_neg (by omega),if_neg (by omega)]
 by_cases h2:f a b<n
 ·rw[if_neg h1,if_pos h2,if_neg (by omega),if_neg (by omega)]
 rw[if_neg h1,if_neg h2,if_pos rfl,if_pos ⟨by omega,by omega⟩,aO2,aO2];rfl
structure Ed where
 fr:Int
 tt:Int
 co:Int
structure BF where
 far:Int→Int
 ahd:Int→Int
 pt:Int
 t:Int→Nat
 w:Int→Int
def upI(f:Int→Int)(a x:Int):Int→Int:=fun p=>if p=a then x else f p
theorem aEc(f:Int→Int)(a x:Int):upI f a x a=x:=by simp[upI]
theorem aE9(f:Int→Int){a x p:Int}(h:p≠a):upI f a x p=f p:=by simp[upI,h]
def okEd(e:Ed):Prop:=inP e.fr∧inP e.tt
instance(p:Int):Decidable (inP p):=by unfold inP;infer_instance
instance(e:Ed):Decidable (okEd e):=by unfold okEd;infer_instance
def aO3(n:Nat)(s:BF)(e:Ed):BF:=
 if okEd e∧s.far e.fr+e.co<s.far e.tt then⟨upI s.far e.tt (s.far e.fr+e.co),upI s.ahd e.tt e.fr,e.tt,fun p=>if p=e.tt then n else s.t p,upI s.w e.tt e.co⟩else s
def initB:BF:=⟨fun _=>0,fun _=>0,0,fun _=>0,fun _=>0⟩
def passE(n:Nat)(es:List Ed)(s:BF):BF:=es.foldl (aO3 n) { s with pt:=0 }
def passN(es:List Ed):Nat→BF
 | 0=>initB
 | n+1=>passE (n+1) es (passN es n)
def itr(f:Int→Int):Nat→Int→Int
 | 0,x=>x
 | k+1,x=>itr f k (f x)
theorem aKv(f:Int→Int):∀(j k:Nat) (x:Int),itr f (j+k) x=itr f k (itr f j x)
 | 0,k,x=>by rw[Nat.zero_add];rfl
 | j+1,k,x=>by rw[Nat.add_right_comm];exact aKv f j k (f x)
theorem aH9(f:Int→Int)(k:Nat)(x:Int):itr f (k+1) x=f (itr f k x):=aKv f k 1 x
def sumI(f w:Int→Int):Nat→Int→Int
 | 0,_=>0
 | k+1,x=>w x+sumI f w k (f x)
theorem aJ9(f w:Int→Int):∀(j k:Nat) (x:Int),sumI f w (j+k) x=sumI f w j x+sumI f w k (itr f j x)
 | 0,k,x=>by simp[sumI,itr]
 | j+1,k,x=>by
  rw[Nat.add_right_comm];show w x+sumI f w (j+k) (f x)=(w x+sumI f w j (f x))+sumI f w k (itr f j (f x));rw[aJ9 f w j k (f x)];omega
theorem aQ8{f w:Int→Int}{v u c:Int}:∀(k:Nat) (x:Int),(∀i,i<k→itr (upI f v u) i x≠v)→itr (upI f v u) k x=itr f k x∧sumI (upI f v u) (upI w v c) k x=sumI f w k x
 | 0,x,_=>⟨rfl,rfl⟩
 | k+1,x,h=>by
  have hx:x≠v:=h 0 (by omega);have hf:upI f v u x=f x:=aE9 f hx
  have ih:=aQ8 (w:=w) (c:=c) k (f x) (fun i hi=>by
   have:=h (i+1) (by omega);show itr (upI f v u) i (f x)≠v;rw[←hf];exact this)
  refine⟨?_,?_⟩
  ·show itr (upI f v u) k (upI f v u x)=itr f k (f x);rw[hf];exact ih.1
  show upI w v c x+sumI (upI f v u) (upI w v c) k (upI f v u x)=w x+sumI f w k (f x);rw[hf,aE9 w hx,ih.2]
structure aIw(es pre:List Ed)(n:Nat)(s:BF):Prop where
 a:∀e∈es,okEd e→s.t e.fr+1<n→s.far e.tt≤s.far e.fr+e.co
 b:∀e∈pre,okEd e→s.t e.fr<n→s.far e.tt≤s.far e.fr+e.co
 le:∀v,s.t v≤n
 pos:∀v,1≤s.t v→inP v∧inP (s.ahd v)∧s.t v≤s.t (s.ahd v)+1∧s.far (s.ahd v)+s.w v≤s.far v∧∃e∈es,e.fr=s.ahd v∧e.tt=v∧e.co=s.w v
 zero:∀v,s.t v=0→s.ahd v=0
 pt:s.pt≠0→s.t s.pt=n
 neg:∀v k,1≤k→itr s.ahd k v=v→inP v→sumI s.ahd s.w k v<0
theorem aIw.none{es pre:List Ed}{n:Nat}{s:BF}(h:aIw es pre n s):s.ahd 0=0:=by
 refine h.zero 0 ?_;rcases Nat.eq_zero_or_pos (s.t 0)with h0|h0
 ·exact h0
 have:=(h.pos 0 h0).1.1;omega
theorem aIw.stay{es pre:List Ed}{n:Nat}{s:BF}(h:aIw es pre n s):∀k,itr s.ahd k 0=0
 | 0=>rfl
 | k+1=>by
  show itr s.ahd k (s.ahd 0)=0;rw[h.none];exact h.stay k
theorem aIw.chain{es pre:List Ed}{n:Nat}{s:BF}(h:aIw es pre n s){v:Int}(hv:inP v):∀(m:Nat) (u:Int),itr s.ahd m u=v→s.far v+sumI s.ahd s.w m u≤s.far u
 | 0,u,hu=>by
  have:u=v:=hu;subst this;simp[sumI]
 | m+1,u,hu=>by
  have hu':itr s.ahd m (s.ahd u)=v:=hu
  have h1:1≤s.t u:=by
   rcases Nat.eq_zero_or_pos (s.t u)with h0|h0
   ·rw[h.zero u h0,h.stay m]at hu';have:=hv.1;omega
   exact h0
  have h2:=(h.pos u h1).2.2.2.1;have h3:=h.chain hv m (s.ahd u) hu';show s.far v+(s.w u+sumI s.ahd s.w m (s.ahd u))≤s.far u;omega
theorem aIw.step{es pre:List Ed}{n:Nat}{s:BF}(h:aIw es pre n s)(hn:1≤n){e:Ed}(he:e∈es):aIw es (pre++[e]) n (aO3 n s e):=by
 by_cases hc:okEd e∧s.far e.fr+e.co<s.far e.tt
 ·have hs:aO3 n s e=⟨upI s.far e.tt (s.far e.fr+e.co),upI s.ahd e.tt e.fr,e.tt,fun p=>if p=e.tt then n else s.t p,upI s.w e.tt e.co⟩:=by unfold aO3;rw[if_pos hc]
  obtain⟨hok,hlt⟩:=hc
  have htu:n≤s.t e.fr+1:=by
   rcases Nat.lt_or_ge (s.t e.fr+1) n with h1|h1
   ·have:=h.a e he hok h1;omega
   exact h1
  have fle:∀x,upI s.far e.tt (s.far e.fr+e.co) x≤s.far x:=fun x=>by
   by_cases hx:x=e.tt
   ·subst hx;rw[aEc];omega
   rw[aE9 _ hx];exact Int.le_refl _
  rw[hs];refine⟨fun d hd hdo hdt=>?_,fun d hd hdo hdt=>?_,fun v=>?_,fun v hv=>?_,fun v hv=>?_,fun _=>?_,fun v k hk hit hv=>?_⟩
  ·dsimp only at hdt ⊢
   by_cases hx:d.fr=e.tt
   ·rw[if_pos hx]at hdt;omega
   rw[if_neg hx]at hdt;rw[aE9 _ hx];have:=h.a d hd hdo hdt;have:=fle d.tt;omega
  ·dsimp only at hdt ⊢
   by_cases hx:d.fr=e.tt
   ·rw[if_pos hx]at hdt;omega
   rw[if_neg hx]at hdt;rw[aE9 _ hx];rcases List.mem_append.1 hd with h1|h1
   ·have:=h.b d h1 hdo hdt;have:=fle d.tt;omega
   rw[List.mem_singleton]at h1;subst h1;rw[aEc];exact Int.le_refl _
  ·dsimp only;split
   ·exact Nat.le_refl _
   exact h.le v
  ·dsimp only at hv ⊢
   by_cases hx:v=e.tt
   ·subst hx;rw[aEc,aEc,aEc,if_pos rfl];refine⟨hok.2,hok.1,?_,?_,e,he,rfl,rfl,rfl⟩
    ·split
     ·omega
     omega
    by_cases hy:e.fr=e.tt
    ·rw[hy,aEc];rw[hy]at hlt;omega
    rw[aE9 _ hy];exact Int.le_refl _
   rw[if_neg hx]at hv;rw[if_neg hx,aE9 _ hx,aE9 _ hx,aE9 _ hx];obtain⟨p1,p2,p3,p4,p5⟩:=h.pos v hv;refine⟨p1,p2,?_,?_,p5⟩
   ·split
    ·rename_i hy;have:=h.le v;omega
    exact p3
   have:=fle (s.ahd v);omega
  ·dsimp only at hv ⊢
   by_cases hx:v=e.tt
   ·rw[if_pos hx]at hv;omega
   rw[if_neg hx]at hv;rw[aE9 _ hx];exact h.zero v hv
  ·dsimp only;rw[if_pos rfl]
  dsimp only at hit ⊢
  -- a round that goes over the new step
  have negv:∀k,1≤k→itr (upI s.ahd e.tt e.fr) k e.tt=e.tt→sumI (upI s.ahd e.tt e.fr) (upI s.w e.tt e.co) k e.tt<0:=by
   intro k
   induction k using Nat.strongRecOn with
   | _ k ih=>
    intro hk hit
    by_cases hm:∃m,1≤m∧m<k∧itr (upI s.ahd e.tt e.fr) m e.tt=e.tt
    ·obtain⟨m,m1,m2,m3⟩:=hm;have hkm:k=m+(k - m):=by omega
     have h2:itr (upI s.ahd e.tt e.fr) (k - m) e.tt=e.tt:=by
      have:=aKv (upI s.ahd e.tt e.fr) m (k - m) e.tt;rw[←hkm,hit,m3]at this;exact this.symm
     have h3:=aJ9 (upI s.ahd e.tt e.fr) (upI s.w e.tt e.co) m (k - m) e.tt;rw[←hkm,m3]at h3;have i1:=ih m m2 m1 m3;have i2:=ih (k - m) (by omega) (by omega) h2;omega
    match k,hk,hit with
    | k+1,_,hit=>
     have hf:upI s.ahd e.tt e.fr e.tt=e.fr:=aEc _ _ _
     have hit':itr (upI s.ahd e.tt e.fr) k e.fr=e.tt:=by
      have:itr (upI s.ahd e.tt e.fr) k (upI s.ahd e.tt e.fr e.tt)=e.tt:=hit
      rwa [hf]at this
     obtain⟨o1,o2⟩:=aQ8 (f:=s.ahd) (w:=s.w) (v:=e.tt) (u:=e.fr) (c:=e.co) k e.fr (fun i hi hz=>hm ⟨i+1,by omega,by omega,by
      show itr (upI s.ahd e.tt e.fr) i (upI s.ahd e.tt e.fr e.tt)=e.tt;rw[hf];exact hz⟩)
     rw[hit']at o1;have hc:=h.chain hok.2 k e.fr o1.symm;show upI s.w e.tt e.co e.tt+sumI (upI s.ahd e.tt e.fr) (upI s.w e.tt e.co) k (upI s.ahd e.tt e.fr e.tt)<0;rw[hf,aEc,o2];omega
  by_cases hex:∃j,j<k∧itr (upI s.ahd e.tt e.fr) j v=e.tt
  ·obtain⟨j,j1,j2⟩:=hex
   have h1:itr (upI s.ahd e.tt e.fr) k e.tt=e.tt:=by
    have a1:=aKv (upI s.ahd e.tt e.fr) j k v;have a2:=aKv (upI s.ahd e.tt e.fr) k j v;rw[j2]at a1;rw[hit,j2]at a2;rw[←a1,Nat.add_comm,a2]
   have b1:=aJ9 (upI s.ahd e.tt e.fr) (upI s.w e.tt e.co) j k v;have b2:=aJ9 (upI s.ahd e.tt e.fr) (upI s.w e.tt e.co) k j v;rw[j2]at b1;rw[hit,Nat.add_comm]at b2;have:=negv k hk h1;omega
  obtain⟨o1,o2⟩:=aQ8 (f:=s.ahd) (w:=s.w) (v:=e.tt) (u:=e.fr) (c:=e.co) k v (fun i hi hz=>hex ⟨i,hi,hz⟩);rw[hit]at o1;rw[o2];exact h.neg v k hk o1.symm hv
 have hs:aO3 n s e=s:=by unfold aO3;rw[if_neg hc]
 rw[hs];refine⟨h.a,fun d hd hdo hdt=>?_,h.le,h.pos,h.zero,h.pt,h.neg⟩;rcases List.mem_append.1 hd with h1|h1
 ·exact h.b d h1 hdo hdt
 rw[List.mem_singleton]at h1;subst h1;rcases Int.lt_or_le (s.far d.fr+d.co) (s.far d.tt)with h2|h2
 ·exact absurd ⟨hdo,h2⟩ hc
 exact h2
theorem aIw.go{es:List Ed}{n:Nat}(hn:1≤n):∀(l pre:List Ed) (s:BF),aIw es pre n s→(∀e∈l,e∈es)→aIw es (pre++l) n (l.foldl (aO3 n) s)
 | [],pre,s,h,_=>by rw[List.append_nil];exact h
 | e::l,pre,s,h,hl=>by
  rw[List.foldl_cons,show pre++e::l=(pre++[e])++l by simp];exact aIw.go hn l (pre++[e]) (aO3 n s e) (h.step hn (hl e (List.mem_cons_self ..))) (fun d hd=>hl d (List.mem_cons_of_mem _ hd))
theorem pigeon:∀(n:Nat) (f:Nat→Nat),(∀i,i≤n→f i<n)→∃i j,i<j∧j≤n∧f i=f j
 | 0,f,h=>absurd (h 0 yL) (by omega)
 | n+1,f,h=>by
  by_cases hx:∃i,i≤n∧f i=f (n+1)
  ·obtain⟨i,hi,he⟩:=hx;exact⟨i,n+1,by omega,Nat.le_refl _,he⟩
  have hne:∀i,i≤n→f i≠f (n+1):=fun i hi he=>hx ⟨i,hi,he⟩
  have hlast:=h (n+1) yL
  obtain⟨i,j,h1,h2,h3⟩:=pigeon n (fun i=>if f (n+1)<f i then f i - 1 else f i) (fun i hi=>by
   have:=h i (by omega);have:=hne i hi
   try dsimp only
   split <;> omega)
  refine⟨i,j,h1,by omega,?_⟩;have a1:=hne i (by omega);have a2:=hne j (by omega)
  try dsimp only at h3
  split at h3 <;> split at h3 <;> omega
def wk(f:Int→Int→Int):Nat→Int→Int→Prop
 | 0,p,q=>p=q
 | n+1,p,q=>∃r,0<f p r∧wk f n r q
theorem aO4{f:Int→Int→Int}:∀{m n:Nat} {p r q:Int},wk f m p r→wk f n r q→wk f (m+n) p q
 | 0,n,p,r,q,h1,h2=>by
  have:p=r:=h1;subst this;rw[Nat.zero_add];exact h2
 | m+1,n,p,r,q,⟨x,h1,h3⟩,h2=>by
  rw[Nat.add_right_comm];exact⟨x,h1,aO4 h3 h2⟩
theorem wk_one{f:Int→Int→Int}{p q:Int}(h:0<f p q):wk f 1 p q:=⟨q,h,rfl⟩
theorem wk_split{f:Int→Int→Int}:∀{m n:Nat} {p q:Int},wk f (m+n) p q→∃r,wk f m p r∧wk f n r q
 | 0,n,p,q,h=>⟨p,rfl,by rwa [Nat.zero_add]at h⟩
 | m+1,n,p,q,h=>by
  rw[Nat.add_right_comm]at h;obtain⟨x,h1,h2⟩:=h;obtain⟨r,h3,h4⟩:=wk_split h2;exact⟨r,⟨x,h1,h3⟩,h4⟩
theorem wk_last{f:Int→Int→Int}{n:Nat}{p q:Int}(h:wk f (n+1) p q):∃r,wk f n p r∧0<f r q:=by
 obtain⟨r,h1,x,h2,h3⟩:=wk_split (m:=n) (n:=1) h;have:x=q:=h3;subst this;exact⟨r,h1,h2⟩
def parts:List Int:=(List.range 16).map fun i:Nat=>(i:Int)+1
theorem aGb{p:Int}:p∈parts↔inP p:=by
 unfold parts inP;simp only[List.mem_map,List.mem_range]
 constructor
 ·rintro⟨i,hi,rfl⟩;omega
 rintro⟨h1,h2⟩;exact⟨p.toNat - 1,by omega,by omega⟩
theorem aO5(i:Nat)(h:i<parts.length):parts[i]=(i:Int)+1:=by simp[parts]
theorem aO6:parts.length=16:=by simp[parts]
def inS(f:Int→Int→Int)(p:Int):Nat→Int→Bool
 | 0,q=>q==p
 | n+1,q=>inS f p n q || parts.any fun r=>inS f p n r && decide (0<f r q)
theorem aBu{f:Int→Int→Int}{B:Int}(h:GInv f B)(p:Int):∀(n:Nat) (q:Int),inS f p n q=true↔∃m,m≤n∧wk f m p q
 | 0,q=>by
  unfold inS;rw[beq_iff_eq]
  constructor
  ·rintro rfl;exact⟨0,Nat.le_refl _,rfl⟩
  ·rintro⟨m,hm,hw⟩;have:m=0:=by omega
   subst this;exact(show p=q from hw).symm
 | n+1,q=>by
  show(inS f p n q || parts.any fun r=>inS f p n r && decide (0<f r q))=true↔_;rw[Bool.or_eq_true,List.any_eq_true]
  constructor
  ·rintro(h1|⟨r,hr,h2⟩)
   ·obtain⟨m,hm,hw⟩:=(aBu h p n q).1 h1;exact⟨m,by omega,hw⟩
   rw[Bool.and_eq_true,decide_eq_true_eq]at h2;obtain⟨m,hm,hw⟩:=(aBu h p n r).1 h2.1;exact⟨m+1,by omega,aO4 hw (wk_one h2.2)⟩
  rintro⟨m,hm,hw⟩
  by_cases hmn:m≤n
  ·exact .inl ((aBu h p n q).2 ⟨m,hmn,hw⟩)
  have:m=n+1:=by omega
  subst this;obtain⟨r,h1,h2⟩:=wk_last hw;refine .inr ⟨r,aGb.2 (h.ends h2).1,?_⟩;rw[Bool.and_eq_true,decide_eq_true_eq];exact⟨(aBu h p n r).2 ⟨n,Nat.le_refl _,h1⟩,h2⟩
theorem aEd{f:Int→Int→Int}{p q:Int}{n m:Nat}(hn:n≤m)(h:inS f p n q=true):inS f p m q=true:=by
 induction m with
 | zero=>
      have:n=0:=by omega
      subst this;exact h
 | succ m ih=>
  by_cases hm:n≤m
  ·show(inS f p m q || _)=true;rw[ih hm];rfl
  have:n=m+1:=by omega
  subst this;exact h
theorem aKa{f:Int→Int→Int}:∀{m:Nat} {p q:Int},wk f m p q↔∃x:Nat→Int,x 0=p∧x m=q∧∀i,i<m→0<f (x i) (x (i+1))
 | 0,p,q=>by
  constructor
  ·intro h;exact⟨fun _=>p,rfl,h,fun i hi=>by omega⟩
  ·rintro⟨x,h1,h2,_⟩;exact h1.symm.trans h2
 | m+1,p,q=>by
  constructor
  ·rintro⟨r,h1,h2⟩;obtain⟨x,h3,h4,h5⟩:=aKa.1 h2;refine⟨fun i=>match i with|0=>p|i+1=>x i,rfl,h4,fun i hi=>?_⟩
   match i with
   | 0=>show 0<f p (x 0);rw[h3];exact h1
   | i+1=>exact h5 i (by omega)
  rintro⟨x,h1,h2,h3⟩;refine⟨x 1,?_,aKa.2 ⟨fun i=>x (i+1),rfl,h2,fun i hi=>h3 (i+1) (by omega)⟩⟩;rw[←h1];exact h3 0 (by omega)
theorem wk_short{f:Int→Int→Int}{B:Int}(h:GInv f B){p q:Int}:∀(m:Nat),wk f m p q→∃k,k≤15∧wk f k p q:=by
 intro m
 induction m using Nat.strongRecOn with
 | _ m ih=>
  intro hw
  by_cases hm:m≤15
  ·exact⟨m,hm,hw⟩
  obtain⟨x,h1,h2,h3⟩:=aKa.1 hw
  have hin:∀i,i≤16→inP (x i):=by
   intro i hi
   by_cases h0:i=0
   ·subst h0;exact(h.ends (h3 0 (by omega))).1
   have:=h3 (i - 1) (by omega);rw[show i - 1+1=i by omega]at this;exact(h.ends this).2.1
  obtain⟨i,j,c1,c2,c3⟩:=pigeon 16 (fun i=>(x i).toNat - 1) (fun i hi=>by
   have:=hin i hi;unfold inP at this
   try dsimp only
   omega)
  have hij:x i=x j:=by
   have a:=hin i (by omega);have b:=hin j c2;unfold inP at a b
   try dsimp only at c3
   omega
  have hw':wk f (m - (j - i)) p q:=by
   refine aKa.2 ⟨fun k=>if k≤i then x k else x (k+(j - i)),?_,?_,fun k hk=>?_⟩
   ·try dsimp only
    rw[if_pos (by omega)];exact h1
   ·try dsimp only
    by_cases hz:m - (j - i)≤i
    ·rw[if_pos hz,←h2];have:m=j:=by omega
     rw[show m - (j - i)=i by omega,this];exact hij
    rw[if_neg hz,←h2];congr 1;omega
   try dsimp only
   by_cases k1:k+1≤i
   ·rw[if_pos (by omega),if_pos k1];exact h3 k (by omega)
   rw[if_neg k1]
   by_cases k2:k≤i
   ·have:k=i:=by omega
    subst this;rw[if_pos k2,hij,show k+1+(j - k)=j+1 by omega];exact h3 j (by omega)
   rw[if_neg k2,show k+1+(j - i)=(k+(j - i))+1 by omega];exact h3 (k+(j - i)) (by omega)
  exact ih (m - (j - i)) (by omega) hw'
theorem aNk{f:Int→Int→Int}{B:Int}(h:GInv f B){p q:Int}{m:Nat}(hw:wk f m p q):inS f p 15 q=true:=by
 obtain⟨k,h1,h2⟩:=wk_short h m hw;exact(aBu h p 15 q).2 ⟨k,h1,h2⟩
def dst(f:Int→Int→Int)(p q:Int):Nat:=((List.range 17).find? fun n=>inS f p n q).getD 0
theorem aKw{f:Int→Int→Int}{p q:Int}{n:Nat}(hn:n≤16)(h:inS f p n q=true)(hm:∀m,m<n→inS f p m q=false):dst f p q=n:=by
 unfold dst
 have:(List.range 17).find? (fun n=>inS f p n q)=some n:=by
  rw[List.find?_eq_some_iff_getElem];refine⟨h,n,by simp;omega,by simp,fun j hj=>?_⟩;simp[hm j hj]
 rw[this];rfl
theorem aC9{f:Int→Int→Int}{p q:Int}(h:inS f p 16 q=true):inS f p (dst f p q) q=true∧dst f p q≤16∧∀m,m<dst f p q→inS f p m q=false:=by
 have key:∀n,n≤16→inS f p n q=true→∃k,k≤n∧inS f p k q=true∧∀m,m<k→inS f p m q=false:=by
  intro n
  induction n using Nat.strongRecOn with
  | _ n ih=>
   intro hn h1
   by_cases hx:∃m,m<n∧inS f p m q=true
   ·obtain⟨m,m1,m2⟩:=hx;obtain⟨k,k1,k2⟩:=ih m m1 (by omega) m2;exact⟨k,by omega,k2⟩
   refine⟨n,Nat.le_refl _,h1,fun m hm=>?_⟩
   cases hb:inS f p m q with
   | false=>rfl
   | true=>exact absurd ⟨m,hm,hb⟩ hx
 obtain⟨k,k1,k2,k3⟩:=key 16 yL h;rw[aKw k1 k2 k3];exact⟨k2,k1,k3⟩
def nxt(f:Int→Int→Int)(b:Int)(n:Nat)(p:Int):Int:=(parts.find? fun q=>decide (0<f p q) && inS f q n b).getD 0
def goS(f:Int→Int→Int)(b:Int):Nat→Int→List Int
 | 0,p=>[p]
 | n+1,p=>p::goS f b n (nxt f b n p)
def aAs(f:Int→Int→Int)(a b:Int):List Int:=if inP a∧inP b∧a≠b∧inS f a 16 b=true then goS f b (dst f a b) a else []
theorem aDn(f:Int→Int→Int)(b:Int):∀(n:Nat) (p:Int),(goS f b n p).length=n+1
 | 0,p=>rfl
 | n+1,p=>by show(goS f b n _).length+1=_;rw[aDn f b n]
theorem parts_find{q:Int→Bool}{x:Int}(hx:inP x)(h:q x=true)(hm:∀y,inP y→y<x→q y=false):parts.find? q=some x:=by
 rw[List.find?_eq_some_iff_getElem];have hx':=hx;unfold inP at hx';refine⟨h,x.toNat - 1,by unfold parts;simp;omega,by unfold parts;simp;omega,fun j hj=>?_⟩
 have:q (parts[j]'(by unfold parts;simp;omega))=false:=by
  refine hm _ ?_ ?_
  ·unfold parts inP;simp;omega
  unfold parts;simp;omega
 simp[this]
theorem nxt_spec{f:Int→Int→Int}{B:Int}(h:GInv f B){p b:Int}{n:Nat}(h1:inS f p (n+1) b=true)(h2:inS f p n b=false)(hb:∀m,m≤n→inS f p m b=false):
  inP (nxt f b n p)∧0<f p (nxt f b n p)∧inS f (nxt f b n p) n b=true∧(∀m,m<n→inS f (nxt f b n p) m b=false)∧∀y,inP y→y<nxt f b n p→¬(0<f p y∧inS f y n b=true):=by
 obtain⟨m,hm,hw⟩:=(aBu h p (n+1) b).1 h1
 have hmn:m=n+1:=by
  rcases Nat.lt_or_ge n m with h3|h3
  ·omega
  have:=(aBu h p n b).2 ⟨m,h3,hw⟩;rw[h2]at this;cases this
 subst hmn;obtain⟨r,r1,r2⟩:=hw
 have hr:(decide (0<f p r) && inS f r n b)=true:=by
  rw[Bool.and_eq_true,decide_eq_true_eq];exact⟨r1,(aBu h r n b).2 ⟨n,Nat.le_refl _,r2⟩⟩
 cases hf:parts.find? fun q=>decide (0<f p q) && inS f q n b with
 | none=>
  have:=List.find?_eq_none.1 hf r (aGb.2 (h.ends r1).2.1);exact absurd hr this
 | some x=>
  have hx:nxt f b n p=x:=by unfold nxt;rw[hf];rfl
  rw[hx];obtain⟨hq,i,hi,hxi,hlt⟩:=List.find?_eq_some_iff_getElem.1 hf;rw[Bool.and_eq_true,decide_eq_true_eq]at hq;have hinx:inP x:=aGb.1 (List.mem_of_find?_eq_some hf);refine⟨hinx,hq.1,hq.2,fun m hm=>?_,fun y hy hyx hc=>?_⟩
  ·cases hc:inS f x m b with
   | false=>rfl
   | true=>
    obtain⟨k,k1,k2⟩:=(aBu h x m b).1 hc;have:=(aBu h p (m+1) b).2 ⟨k+1,by omega,x,hq.1,k2⟩;rw[hb (m+1) (by omega)]at this
    cases this
  unfold inP at hy hinx;have hpi:=aO5 i hi;rw[aO6]at hi;have hj:y.toNat - 1<i:=by omega
  have:=hlt (y.toNat - 1) hj;have hy2:parts[y.toNat - 1]'(by rw[aO6];omega)=y:=by rw[aO5];omega
  rw[hy2]at this;simp[hc.1,hc.2]at this
structure LeftI(f:Int→Int→Int)(b:Int)(n:Nat)(done:Int→Int→Prop)(left:Int→Int):Prop where
 lo:∀p,0≤left p∧left p≤99
 way:∀p,left p=99∨wk f (left p).toNat p b
 all:∀p m,m≤n→wk f m p b→left p≤m
 cur:∀p r,done p r→0<f p r→∀m,m≤n→wk f m r b→left p≤m+1
theorem LeftI.pass{f:Int→Int→Int}{B:Int}(g:GInv f B){b:Int}{n:Nat}{done:Int→Int→Prop}{left:Int→Int}(h:LeftI f b n done left)(hd:∀p r,inP p→inP r→done p r):LeftI f b (n+1) (fun _ _=>False) left:=by
 refine⟨h.lo,h.way,fun p m hm hw=>?_,fun p r hd=>hd.elim⟩
 match m,hm,hw with
 | 0,_,hw=>exact h.all p 0 (by omega) hw
 | m+1,hm,⟨r,h1,h2⟩=>
  obtain⟨e1,e2,_⟩:=g.ends h1;have:=h.cur p r (hd p r e1 e2) h1 m (by omega) h2;omega
theorem goS_at{f:Int→Int→Int}{B:Int}(g:GInv f B){b:Int}:∀(n:Nat) (p:Int),inP p→inS f p 16 b=true→dst f p b=n→
  ∀i (hi:i<(goS f b n p).length),inP (goS f b n p)[i]∧inS f (goS f b n p)[i] 16 b=true∧dst f (goS f b n p)[i] b+i=n∧
   ∀(hj:i+1<(goS f b n p).length),0<f (goS f b n p)[i] (goS f b n p)[i+1]∧∀z,inP z→z<(goS f b n p)[i+1]→0<f (goS f b n p)[i] z→¬(inS f z 16 b=true∧dst f z b+(i+1)=n)
 | 0,p,hp,hr,hd,i,hi=>by
  have h0:i=0:=by rw[aDn]at hi;omega
  subst h0;exact⟨hp,hr,hd,fun hj=>by rw[aDn]at hj;omega⟩
 | n+1,p,hp,hr,hd,i,hi=>by
  obtain⟨d1,d2,d3⟩:=aC9 hr;rw[hd]at d1 d2 d3;obtain⟨n1,n2,n3,n4,n5⟩:=nxt_spec g d1 (d3 n (by omega)) (fun m hm=>d3 m (by omega));have hdn:=aKw (by omega) n3 n4;have ih:=goS_at g n (nxt f b n p) n1 (aEd (by omega) n3) hdn;have hlen:=aDn f b n (nxt f b n p);have hl1:(goS f b (n+1) p).length=n+2:=aDn f b (n+1) p
  match i,hi with
  | 0,hi=>
   refine⟨hp,hr,hd,fun hj=>?_⟩
   have e:(goS f b (n+1) p)[0+1]=nxt f b n p:=by
    show(goS f b n (nxt f b n p))[0]'(by rw[hlen];omega)=nxt f b n p
    cases n <;> rfl
   rw[e];refine⟨n2,fun z hz hzl hf hc=>n5 z hz hzl ⟨hf,?_⟩⟩;have:=(aC9 hc.1).1;rw[show dst f z b=n by have:=hc.2;omega]at this;exact this
  | i+1,hi=>
   have hi':i<(goS f b n (nxt f b n p)).length:=by rw[hlen];rw[hl1]at hi;omega
   obtain⟨i1,i2,i3,i4⟩:=ih i hi';refine⟨i1,i2,?_,fun hj=>?_⟩
   ·show dst f ((goS f b n (nxt f b n p))[i]'hi') b+(i+1)=n+1;omega
   have hj':i+1<(goS f b n (nxt f b n p)).length:=by rw[hlen];rw[hl1]at hj;omega
   obtain⟨j1,j2⟩:=i4 hj';refine⟨j1,fun z hz hzl hf hc=>j2 z hz hzl hf ⟨hc.1,?_⟩⟩;have:=hc.2;omega
theorem goS_head(f:Int→Int→Int)(b:Int)(n:Nat)(p:Int):(goS f b n p)[0]'(by rw[aDn];omega)=p:=by cases n <;> rfl
theorem goS_last{f:Int→Int→Int}{B:Int}(g:GInv f B){b p:Int}{n:Nat}(hp:inP p)(hr:inS f p 16 b=true)(hd:dst f p b=n):(goS f b n p)[n]'(by rw[aDn];omega)=b:=by
 obtain⟨h1,h2,h3,_⟩:=goS_at g n p hp hr hd n (by rw[aDn];omega);have h4:dst f ((goS f b n p)[n]'(by rw[aDn];omega)) b=0:=by omega
 have h5:=(aC9 h2).1;rw[h4]at h5;have:(b==(goS f b n p)[n]'(by rw[aDn];omega))=true:=h5;exact(beq_iff_eq.1 this).symm
end Go.Proofs.YtaeocliklpcgmaaGreat
