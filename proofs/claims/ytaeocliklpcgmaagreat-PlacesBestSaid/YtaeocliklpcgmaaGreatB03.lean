/- Pieces of one proof. -/
import Derived.Test.YtaeocliklpcgmaaGreatB02
import Derived.OwnWalk
import Derived.BigQuiet
import Derived.Laws.AppendOwnNone
set_option linter.all false
set_option maxHeartbeats 64000000
set_option maxRecDepth 100000
namespace Go.Proofs.YtaeocliklpcgmaaGreat
open Go.RowKit
def aCg(w:World)(v:Value)(size n:Nat)(xs:List Value):Prop:=
 ∃(ao:Option Addr) (cap:Nat),v=.slice ao n cap∧n≤100000000∧xs.length=n*size∧(0<n→∃b off,ao=some ⟨b,off,none⟩∧b<w.heap.size∧∀j,j<n*size→w.cell? ⟨b,off+j,none⟩=xs[j]?)
theorem aCg.keep{S:Nat→Prop}{w w':World}{v:Value}{size n:Nat}{xs:List Value}(h:aCg w v size n xs)(k:Keep S w w')(hs:∀b,v.ownBlock=some b→¬S b):aCg w' v size n xs:=by
 obtain⟨ao,cap,rfl,h1,h2,h3⟩:=h;refine⟨ao,cap,rfl,h1,h2,fun hp=>?_⟩;obtain⟨b,off,rfl,hb,hc⟩:=h3 hp;exact⟨b,off,rfl,yM hb k.size,fun j hj=>by rw[k.cell (p:=⟨b,off+j,none⟩) hb (hs b rfl)];exact hc j hj⟩
theorem aCg.below{w w':World}{v:Value}{size n:Nat}{xs:List Value}(h:aCg w v size n xs)(k:Below w.heap.size w w'):aCg w' v size n xs:=
 h.keep (pAE (S:=fun _=>False) k) (fun _ _=>id)
theorem aHh{α:Type}{l m:List α}{k:Nat}(h:k<l.length)(hm:k<m.length)(he:l.take k=m.take k)(hx:l[k]=m[k]):l.take (k+1)=m.take (k+1):=by
 rw[List.take_succ_eq_append_getElem h,List.take_succ_eq_append_getElem hm,he,hx]
theorem ln_parts(x y:Ln):(x=y)∨(x≠y∧(x.cr==y.cr)=false)∨(x≠y∧(x.cr==y.cr)=true∧(x.de==y.de)=false)∨(x≠y∧(x.cr==y.cr)=true∧(x.de==y.de)=true∧(x.cu==y.cu)=false)∨(x≠y∧(x.cr==y.cr)=true∧(x.de==y.de)=true∧(x.cu==y.cu)=true∧(x.li==y.li)=false)∨(x≠y∧(x.cr==y.cr)=true∧(x.de==y.de)=true∧(x.cu==y.cu)=true∧(x.li==y.li)=true∧(x.db==y.db)=false):=by
 obtain⟨a,b,c,d,e⟩:=x;obtain⟨a',b',c',d',e'⟩:=y
 by_cases h1:a=a' <;> by_cases h2:b=b' <;> by_cases h3:c=c' <;> by_cases h4:d=d' <;> by_cases h5:e=e' <;> simp[h1,h2,h3,h4,h5]
theorem aLu{w:World}{va vb:Value}{la lb:List Ln}(ha:aCg w va 5 la.length (aAt la))(hb:aCg w vb 5 lb.length (aAt lb)):
  Calls Tryz.prog 57 #[va,vb] w (yR w (.bool (decide (la=lb)))):=by
 obtain⟨ao,ca,rfl,a1,a2,a3⟩:=ha;obtain⟨bo,cb,rfl,b1,b2,b3⟩:=hb;have HA:=yH a3;have HB:=yH b3;clear a2 a3 b2 b3
 by_cases hlen:la.length=lb.length
 ·have L:=yH hlen;have hll:lb.length=la.length:=hlen.symm;rw[hll];clear hll hlen b1;go_enter Tryz.func57,Tryz.ntmps57;go_wp2
  go_loopw [5] (fun i wr=>∃k:Nat,k≤la.length∧i=.int .i64 k∧Hid (la.take k=lb.take k)∧Below w.heap.size w wr) (fun i _=>la.length - (intOf i).toNat)
  case atStart=>exact⟨0,Nat.zero_le _,rfl,yH (by simp),yZ⟩
  obtain⟨k,hk,rfl,ht,hbl⟩:=hrel;have BL:=yH hbl
  by_cases hkl:k<la.length
  ·have hkb:k<lb.length:=by have:=L.out;omega
   obtain⟨b1,o1,rfl,hlt1,hc1⟩:=HA.out (by omega);obtain⟨b2,o2,rfl,hlt2,hc2⟩:=HB.out (by omega);have HC1:=yH (fun j (hj:j<la.length*5)=>(hbl.cell (p:=⟨b1,o1+j,none⟩) hlt1).trans (hc1 j hj));have HC2:=yH (fun j (hj:j<lb.length*5)=>(hbl.cell (p:=⟨b2,o2+j,none⟩) hlt2).trans (hc2 j hj))
   have d0:wr.cell? ⟨b1,o1+k*5,none⟩=some (.int .u8 la[k].cr):=by
    have q1:=HC1.out (k*5+0) (by omega);rw[aA8 la k 0 (by omega) hkl]at q1
    first|exact q1|(rw[←Nat.add_assoc]at q1;exact q1)
   have d1:wr.cell? ⟨b1,o1+k*5+1,none⟩=some (.int .u8 la[k].de):=by
    have q1:=HC1.out (k*5+1) (by omega);rw[aA8 la k 1 (by omega) hkl]at q1
    first|exact q1|(rw[←Nat.add_assoc]at q1;exact q1)
   have d2:wr.cell? ⟨b1,o1+k*5+2,none⟩=some (.int .u8 la[k].cu):=by
    have q1:=HC1.out (k*5+2) (by omega);rw[aA8 la k 2 (by omega) hkl]at q1
    first|exact q1|(rw[←Nat.add_assoc]at q1;exact q1)
   have d3:wr.cell? ⟨b1,o1+k*5+3,none⟩=some (.int .i64 la[k].li):=by
    have q1:=HC1.out (k*5+3) (by omega);rw[aA8 la k 3 (by omega) hkl]at q1
    first|exact q1|(rw[←Nat.add_assoc]at q1;exact q1)
   have d4:wr.cell? ⟨b1,o1+k*5+4,none⟩=some (.int .i64 la[k].db):=by
    have q1:=HC1.out (k*5+4) (by omega);rw[aA8 la k 4 (by omega) hkl]at q1
    first|exact q1|(rw[←Nat.add_assoc]at q1;exact q1)
   have f0:wr.cell? ⟨b2,o2+k*5,none⟩=some (.int .u8 lb[k].cr):=by
    have q1:=HC2.out (k*5+0) (by omega);rw[aA8 lb k 0 (by omega) hkb]at q1
    first|exact q1|(rw[←Nat.add_assoc]at q1;exact q1)
   have f1:wr.cell? ⟨b2,o2+k*5+1,none⟩=some (.int .u8 lb[k].de):=by
    have q1:=HC2.out (k*5+1) (by omega);rw[aA8 lb k 1 (by omega) hkb]at q1
    first|exact q1|(rw[←Nat.add_assoc]at q1;exact q1)
   have f2:wr.cell? ⟨b2,o2+k*5+2,none⟩=some (.int .u8 lb[k].cu):=by
    have q1:=HC2.out (k*5+2) (by omega);rw[aA8 lb k 2 (by omega) hkb]at q1
    first|exact q1|(rw[←Nat.add_assoc]at q1;exact q1)
   have f3:wr.cell? ⟨b2,o2+k*5+3,none⟩=some (.int .i64 lb[k].li):=by
    have q1:=HC2.out (k*5+3) (by omega);rw[aA8 lb k 3 (by omega) hkb]at q1
    first|exact q1|(rw[←Nat.add_assoc]at q1;exact q1)
   have f4:wr.cell? ⟨b2,o2+k*5+4,none⟩=some (.int .i64 lb[k].db):=by
    have q1:=HC2.out (k*5+4) (by omega);rw[aA8 lb k 4 (by omega) hkb]at q1
    first|exact q1|(rw[←Nat.add_assoc]at q1;exact q1)
   have hz1:b1<wr.heap.size:=yM hlt1 hbl.size;have hz2:b2<wr.heap.size:=yM hlt2 hbl.size
   have NE:=yH (fun(he:la[k]≠lb[k])=>show decide (la=lb)=false by
    rw[decide_eq_false_iff_not];rintro rfl;exact he rfl)
   have EQ:=yH (fun(he:la[k]=lb[k])=>aHh hkl hkb ht.out he);clear hc1 hc2 HC1 HC2 hbl;generalize la[k]=x at *;generalize lb[k]=y at *;have hs:(x=y)∨(x≠y∧(x.cr==y.cr)=false)∨(x≠y∧(x.cr==y.cr)=true∧(x.de==y.de)=false)∨(x≠y∧(x.cr==y.cr)=true∧(x.de==y.de)=true∧(x.cu==y.cu)=false)∨(x≠y∧(x.cr==y.cr)=true∧(x.de==y.de)=true∧(x.cu==y.cu)=true∧(x.li==y.li)=false)∨(x≠y∧(x.cr==y.cr)=true∧(x.de==y.de)=true∧(x.cu==y.cu)=true∧(x.li==y.li)=true∧(x.db==y.db)=false):=ln_parts x y;rcases hs with rfl|⟨he,s1⟩|⟨he,s1,s2⟩|⟨he,s1,s2,s3⟩|⟨he,s1,s2,s3,s4⟩|⟨he,s1,s2,s3,s4,s5⟩
   ·clear NE;go_wp2
    go_region
    all_goals
     go_wp2;go_roundw
     case rel=>exact⟨k+1,by omega,by go_num,yH (EQ.out (by first|exact rfl|trivial)),by first|exact BL.out.drew|exact BL.out⟩
     case measure=>simp[intOf];omega
   ·have E:=yH (NE.out he);clear he NE EQ;go_wp2
    go_region
    all_goals
     go_wp2;go_ret;exact⟨by rw[E.out];rfl,by first|exact BL.out.drew|exact BL.out⟩
   ·have E:=yH (NE.out he);clear he NE EQ;go_wp2
    go_region
    all_goals
     go_wp2;go_ret;exact⟨by rw[E.out];rfl,by first|exact BL.out.drew|exact BL.out⟩
   ·have E:=yH (NE.out he);clear he NE EQ;go_wp2
    go_region
    all_goals
     go_wp2;go_ret;exact⟨by rw[E.out];rfl,by first|exact BL.out.drew|exact BL.out⟩
   ·have E:=yH (NE.out he);clear he NE EQ;go_wp2
    go_region
    all_goals
     go_wp2;go_ret;exact⟨by rw[E.out];rfl,by first|exact BL.out.drew|exact BL.out⟩
   have E:=yH (NE.out he);clear he NE EQ;go_wp2
   go_region
   all_goals
    go_wp2;go_ret;exact⟨by rw[E.out];rfl,by first|exact BL.out.drew|exact BL.out⟩
  have E:=yH (show decide (la=lb)=true by
   have h1:=ht.out;rw[List.take_of_length_le (by omega),List.take_of_length_le (by have:=L.out;omega)]at h1;rw[decide_eq_true_eq];exact h1)
  go_wp2;go_ret;exact⟨by rw[E.out];rfl,BL.out⟩
 have E:=yH (show decide (la=lb)=false by rw[decide_eq_false_iff_not];rintro rfl;exact hlen rfl);have q:((la.length:Int)==(lb.length:Int))=false:=by simp;omega
 clear hlen;go_enter Tryz.func57,Tryz.ntmps57;go_wp2;go_ret;exact⟨by rw[E.out];rfl,yZ⟩
theorem aB6{P:Program}(w:World)(t e:TypeId)(sz:Nat)(ht:P.underlying t=some (.slice e))(hs:(sizeOf e).run P w=.ok sz w)(b n cap:Nat)(h:n≤cap):
  (Instr.sliceAt t (.slice (some ⟨b,0,none⟩) n cap) none (some (.int .i64 n)) (some (.int .i64 n))).run P w=.ok (.slice (some ⟨b,0,none⟩) n n) w:=by
 have he:P.elem t=e:=by simp[Program.elem,ht]
 simp[Instr.sliceAt,Instr.slice,run_underlying ht,Instr.sliceBounds,run_sliceBound,hs,h,Result.andThen,Addr.add]
theorem aBa{P:Program}(w:World)(t e:TypeId)(sz:Nat)(ht:P.underlying t=some (.slice e))(hs:(sizeOf e).run P w=.ok sz w):
  (Instr.sliceAt t (.slice none 0 0) none (some (.int .i64 0)) (some (.int .i64 0))).run P w=.ok (.slice none 0 0) w:=by
 simp[Instr.sliceAt,Instr.slice,run_underlying ht,Instr.sliceBounds,run_sliceBound,hs,Result.andThen,Addr.add]
def aBu(w:World)(base:Nat)(e:TypeId)(size:Nat)(v:Value)(n:Nat)(xs:List Value):Prop:=
 xs.length=n*size∧((v=.slice none 0 0∧n=0)∨∃g cur,v=.slice (some ⟨g,0,none⟩) n n∧base≤g∧w.heap[g]? = some (.cells cur e (0,0))∧n≤maxLen∧n*size≤cur.size∧cur.toList.take (n*size)=xs)
theorem aBu.keep{S:Nat→Prop}{w w':World}{base:Nat}{e:TypeId}{size:Nat}{v:Value}{n:Nat}{xs:List Value}(h:aBu w base e size v n xs)(k:Keep S w w')(hs:∀b,v.ownBlock=some b→¬S b):aBu w' base e size v n xs:=by
 obtain⟨h1,h2⟩:=h;refine⟨h1,?_⟩;rcases h2 with h2|⟨g,cur,rfl,hb,hg,hr⟩
 ·exact .inl h2
 refine .inr ⟨g,cur,rfl,hb,?_,hr⟩;rw[k.block g (lt_of_block hg) (hs g rfl)];exact hg
theorem aBu.below{w w':World}{base:Nat}{e:TypeId}{size:Nat}{v:Value}{n:Nat}{xs:List Value}(h:aBu w base e size v n xs)(k:Below w.heap.size w w'):aBu w' base e size v n xs:=
 h.keep (pAE (S:=fun _=>False) k) (fun _ _=>id)
theorem aBu.base{w:World}{base b':Nat}{e:TypeId}{size:Nat}{v:Value}{n:Nat}{xs:List Value}(h:aBu w base e size v n xs)(hb:b'≤base):aBu w b' e size v n xs:=by
 obtain⟨h1,h2⟩:=h;refine⟨h1,?_⟩;rcases h2 with h2|⟨g,cur,hv,hg,hr⟩
 ·exact .inl h2
 exact .inr ⟨g,cur,hv,Nat.le_trans hb hg,hr⟩
theorem aBu.type{w:World}{base:Nat}{e:TypeId}{size:Nat}{v:Value}{n:Nat}{xs:List Value}(h:aBu w base e size v n xs){b:Nat}(hb:v.ownBlock=some b):base≤b∧b<w.heap.size∧∃cur,w.heap[b]? = some (.cells cur e (0,0)):=by
 obtain⟨_,h2⟩:=h;rcases h2 with⟨rfl,_⟩|⟨g,cur,rfl,hge,hg,_⟩
 ·cases hb
 cases hb;exact⟨hge,lt_of_block hg,cur,hg⟩
theorem aBu.reads{w:World}{base:Nat}{e:TypeId}{size:Nat}{v:Value}{n:Nat}{xs:List Value}(h:aBu w base e size v n xs)(hn:n≤100000000):aCg w v size n xs:=by
 obtain⟨h1,h2⟩:=h;rcases h2 with⟨rfl,rfl⟩|⟨g,cur,rfl,_,hg,_,hc,ht⟩
 ·exact⟨none,0,rfl,by omega,h1,fun h=>by omega⟩
 refine⟨_,n,rfl,hn,h1,fun hp=>⟨g,0,rfl,lt_of_block hg,fun j hj=>?_⟩⟩;rw[Nat.zero_add];show w.cell? ⟨g,j,none⟩=_;simp only[World.cell?,hg,Option.isSome_none,Bool.false_eq_true,if_false];rw[←ht,List.getElem?_take_of_lt hj,Array.getElem?_toList]
def aGf(w:World)(base:Nat)(e:TypeId)(size n:Nat)(v:Value)(xs:List Value)(en:Ending)(w':World):Prop:=
 ∃v',en=.returned v'∧aBu w' base e size v' n xs∧v'.ownBlock=v.ownBlock∧w'=w
def aFl(w:World)(e:TypeId)(size n:Nat)(xs:List Value)(en:Ending)(w':World):Prop:=
 ∃v',en=.returned v'∧aBu w' w.heap.size e size v' n xs∧Below w.heap.size w w'
def Twinned(w:World)(base g:Nat)(e:TypeId)(size n:Nat)(xs marks:List Value):Prop:=w.ownsRow base e size (.slice (some ⟨g,0,none⟩) (n+2) (n+2)) (n+2) (xs++marks)
theorem Twinned.cells{w:World}{base g:Nat}{e:TypeId}{size n:Nat}{xs marks:List Value}(h:Twinned w base g e size n xs marks):g<w.heap.size∧∀j,j<(n+2)*size→w.cell? ⟨g,j,none⟩=(xs++marks)[j]? := by
 obtain⟨ao,cap,hv,_,_,_,hr⟩:=aAg h
 cases hv
 obtain⟨b,hb,_,hlt,hc,_⟩:=hr (by omega)
 cases hb
 exact⟨hlt,hc⟩
structure Fw where
 fr:Int
 tt:Int
 am:Int
deriving DecidableEq
def Fw.vals(x:Fw):List Value:=[.int .u8 x.fr,.int .u8 x.tt,.int .i64 x.am]
theorem Fw.vals_len(x:Fw):x.vals.length=3:=rfl
def aBh(ls:List Fw):List Value:=ls.flatMap Fw.vals
def Fw.val(x:Fw):Value:=.agg #[.int .u8 x.fr,.int .u8 x.tt,.int .i64 x.am]
theorem aNf(ls:List Fw):(aBh ls).length=ls.length*3:=aHy _ 3 Fw.vals_len ls
theorem aEj(ls:List Fw)(i j:Nat)(hj:j<3)(h:i<ls.length):(aBh ls)[i*3+j]? = ls[i].vals[j]? := by
 unfold aBh;rw[aGd _ 3 Fw.vals_len ls i j hj,List.getElem?_eq_getElem h];rfl
structure Fw.Fits(x:Fw):Prop where
 fr:In8 x.fr
 tt:In8 x.tt
 am:In64 x.am
theorem info_fw:(Tryz.prog.info? 220).map (fun i=>(i.zero,i.size,i.bytes))=some (some (Fw.val ⟨0,0,0⟩),3,16):=by kernel_rfl
def aLv(f:Int→Int→Int)(m:Nat):Fw:=⟨((m/16:Nat):Int)+1,((m%16:Nat):Int)+1,f (((m/16:Nat):Int)+1) (((m%16:Nat):Int)+1)⟩
def prefE(f:Int→Int→Int)(m:Nat):List Fw:=((List.range m).map (aLv f)).filter fun x=>decide (0<x.am)
def allE(f:Int→Int→Int):List Fw:=prefE f 256
theorem edge_at(f:Int→Int→Int){p q:Nat}(hq:q<16):aLv f (p*16+q)=⟨(p:Int)+1,(q:Int)+1,f ((p:Int)+1) ((q:Int)+1)⟩:=by
 unfold aLv;rw[show(p*16+q)/16=p by omega,show(p*16+q)%16=q by omega]
structure RefG(w:World)(base g:Nat)(es:List Fw)(vl:Value):Prop where
 blk:Blk w g #[vl] 256
 ge:base≤g
 row:w.ownsRow base 220 3 vl es.length (aBh es)
def CapB(es:List Fw)(B:Int):Prop:=∀x∈es,0<x.am∧x.am≤B
theorem prefE_mem{f:Int→Int→Int}{m:Nat}{x:Fw}:x∈prefE f m↔∃i,i<m∧aLv f i=x∧0<x.am:=by
 unfold prefE;simp only[List.mem_filter,List.mem_map,List.mem_range,decide_eq_true_eq]
 constructor
 ·rintro⟨⟨i,hi,he⟩,h⟩;exact⟨i,hi,he,h⟩
 rintro⟨i,hi,he,h⟩;exact⟨⟨i,hi,he⟩,h⟩
def inP(p:Int):Prop:=1≤p∧p≤16
theorem allE_mem{f:Int→Int→Int}{x:Fw}:x∈allE f↔inP x.fr∧inP x.tt∧x.am=f x.fr x.tt∧0<x.am:=by
 unfold allE;rw[prefE_mem]
 constructor
 ·rintro⟨i,hi,he,h⟩;unfold aLv at he;subst he;refine⟨⟨?_,?_⟩,⟨?_,?_⟩,rfl,h⟩ <;> dsimp only <;> omega
 rintro⟨⟨h1,h2⟩,⟨h3,h4⟩,h5,h6⟩;refine⟨(x.fr.toNat - 1)*16+(x.tt.toNat - 1),by omega,?_,h6⟩;rw[edge_at f (by omega)];have e1:((x.fr.toNat - 1:Nat):Int)+1=x.fr:=by omega
 have e2:((x.tt.toNat - 1:Nat):Int)+1=x.tt:=by omega
 rw[e1,e2,←h5]
def updE(f:Int→Int→Int)(a b n p q:Int):Int:=if p=a∧q=b then n else f p q
theorem CapB.all{f:Int→Int→Int}{B:Int}(h:∀p q,inP p→inP q→f p q≤B):CapB (allE f) B:=by
 intro x hx;have:=allE_mem.1 hx;exact⟨this.2.2.2,by rw[this.2.2.1];exact h _ _ this.1 this.2.1⟩
structure GInv(f:Int→Int→Int)(B:Int):Prop where
 nn:∀p q,0≤f p q
 pair:∀p q,f p q+f q p≤B
 out:∀p q,¬(inP p∧inP q)→f p q=0
 self:∀p,f p p=0
theorem GInv.le{f:Int→Int→Int}{B:Int}(h:GInv f B)(p q:Int):f p q≤B:=by have:=h.pair p q;have:=h.nn q p;omega
theorem GInv.ends{f:Int→Int→Int}{B:Int}(h:GInv f B){p q:Int}(h0:0<f p q):inP p∧inP q∧p≠q:=by
 by_cases hi:inP p∧inP q
 ·refine⟨hi.1,hi.2,?_⟩;rintro rfl;have:=h.self p;omega
 have:=h.out p q hi;omega
def aFs(_ _:Int):Int:=0
theorem GInv.zero{B:Int}(h:0≤B):GInv aFs B:=⟨fun _ _=>Int.le_refl _,fun _ _=>by unfold aFs;omega,fun _ _ _=>rfl,fun _=>rfl⟩
def aBm(f:Int→Int→Int)(a b n p q:Int):Int:=if p=b∧q=a then f b a+n else if p=a∧q=b then f a b - n else f p q
theorem GInv.push{f:Int→Int→Int}{B:Int}(h:GInv f B){a b n:Int}(h1:1≤n)(h2:n≤f a b):GInv (aBm f a b n) B:=by
 obtain⟨ha,hb,hne⟩:=h.ends (p:=a) (q:=b) (by omega);have hba:=h.nn b a;refine⟨fun p q=>?_,fun p q=>?_,fun p q hi=>?_,fun p=>?_⟩
 ·unfold aBm;have:=h.nn p q;split
  ·omega
  split <;> omega
 ·have hp:=h.pair p q;have hab:=h.pair a b
  by_cases c1:p=b∧q=a
  ·obtain⟨rfl,rfl⟩:=c1;have e1:aBm f q p n p q=f p q+n:=by unfold aBm;rw[if_pos ⟨rfl,rfl⟩]
   have e2:aBm f q p n q p=f q p - n:=by unfold aBm;rw[if_neg (fun e=>hne e.1),if_pos ⟨rfl,rfl⟩]
   omega
  by_cases c2:p=a∧q=b
  ·obtain⟨rfl,rfl⟩:=c2;have e1:aBm f p q n p q=f p q - n:=by unfold aBm;rw[if_neg (fun e=>hne e.1),if_pos ⟨rfl,rfl⟩]
   have e2:aBm f p q n q p=f q p+n:=by unfold aBm;rw[if_pos ⟨rfl,rfl⟩]
   omega
  have e1:aBm f a b n p q=f p q:=by unfold aBm;rw[if_neg c1,if_neg c2]
  have e2:aBm f a b n q p=f q p:=by unfold aBm;rw[if_neg (fun e=>c2 ⟨e.2,e.1⟩),if_neg (fun e=>c1 ⟨e.2,e.1⟩)]
  omega
 ·unfold aBm;rw[if_neg (fun e=>hi ⟨by rw[e.1];exact hb,by rw[e.2];exact ha⟩),if_neg (fun e=>hi ⟨by rw[e.1];exact ha,by rw[e.2];exact hb⟩)];exact h.out p q hi
 unfold aBm;rw[if_neg (fun e=>hne (e.2.symm.trans e.1)),if_neg (fun e=>hne (e.1.symm.trans e.2))];exact h.self p
structure Ed where
 fr:Int
 tt:Int
 co:Int
structure BF where
 far:Int→Int
 ahd:Int→Int
 pt:Int
 t:Int→Nat
 w:Int→Int
def upI(f:Int→Int)(a x:Int):Int→Int:=fun p=>if p=a then x else f p
theorem aDb(f:Int→Int)(a x:Int):upI f a x a=x:=by simp[upI]
theorem aD8(f:Int→Int){a x p:Int}(h:p≠a):upI f a x p=f p:=by simp[upI,h]
def okEd(e:Ed):Prop:=inP e.fr∧inP e.tt
instance(p:Int):Decidable (inP p):=by unfold inP;infer_instance
instance(e:Ed):Decidable (okEd e):=by unfold okEd;infer_instance
def aLw(n:Nat)(s:BF)(e:Ed):BF:=
 if okEd e∧s.far e.fr+e.co<s.far e.tt then⟨upI s.far e.tt (s.far e.fr+e.co),upI s.ahd e.tt e.fr,e.tt,fun p=>if p=e.tt then n else s.t p,upI s.w e.tt e.co⟩else s
def initB:BF:=⟨fun _=>0,fun _=>0,0,fun _=>0,fun _=>0⟩
def passE(n:Nat)(es:List Ed)(s:BF):BF:=es.foldl (aLw n) { s with pt:=0 }
def passN(es:List Ed):Nat→BF
 | 0=>initB
 | n+1=>passE (n+1) es (passN es n)
def itr(f:Int→Int):Nat→Int→Int
 | 0,x=>x
 | k+1,x=>itr f k (f x)
theorem aIo(f:Int→Int):∀(j k:Nat) (x:Int),itr f (j+k) x=itr f k (itr f j x)
 | 0,k,x=>by rw[Nat.zero_add];rfl
 | j+1,k,x=>by rw[Nat.add_right_comm];exact aIo f j k (f x)
theorem aGg(f:Int→Int)(k:Nat)(x:Int):itr f (k+1) x=f (itr f k x):=aIo f k 1 x
def sumI(f w:Int→Int):Nat→Int→Int
 | 0,_=>0
 | k+1,x=>w x+sumI f w k (f x)
theorem aH2(f w:Int→Int):∀(j k:Nat) (x:Int),sumI f w (j+k) x=sumI f w j x+sumI f w k (itr f j x)
 | 0,k,x=>by simp[sumI,itr]
 | j+1,k,x=>by
  rw[Nat.add_right_comm];show w x+sumI f w (j+k) (f x)=(w x+sumI f w j (f x))+sumI f w k (itr f j (f x));rw[aH2 f w j k (f x)];omega
theorem aNg{f w:Int→Int}{v u c:Int}:∀(k:Nat) (x:Int),(∀i,i<k→itr (upI f v u) i x≠v)→itr (upI f v u) k x=itr f k x∧sumI (upI f v u) (upI w v c) k x=sumI f w k x
 | 0,x,_=>⟨rfl,rfl⟩
 | k+1,x,h=>by
  have hx:x≠v:=h 0 (by omega);have hf:upI f v u x=f x:=aD8 f hx
  have ih:=aNg (w:=w) (c:=c) k (f x) (fun i hi=>by
   have:=h (i+1) (by omega);show itr (upI f v u) i (f x)≠v;rw[←hf];exact this)
  refine⟨?_,?_⟩
  ·show itr (upI f v u) k (upI f v u x)=itr f k (f x);rw[hf];exact ih.1
  show upI w v c x+sumI (upI f v u) (upI w v c) k (upI f v u x)=w x+sumI f w k (f x);rw[hf,aD8 w hx,ih.2]
structure aGx(es pre:List Ed)(n:Nat)(s:BF):Prop where
 a:∀e∈es,okEd e→s.t e.fr+1<n→s.far e.tt≤s.far e.fr+e.co
 b:∀e∈pre,okEd e→s.t e.fr<n→s.far e.tt≤s.far e.fr+e.co
 le:∀v,s.t v≤n
 pos:∀v,1≤s.t v→inP v∧inP (s.ahd v)∧s.t v≤s.t (s.ahd v)+1∧s.far (s.ahd v)+s.w v≤s.far v∧∃e∈es,e.fr=s.ahd v∧e.tt=v∧e.co=s.w v
 zero:∀v,s.t v=0→s.ahd v=0
 pt:s.pt≠0→s.t s.pt=n
 neg:∀v k,1≤k→itr s.ahd k v=v→inP v→sumI s.ahd s.w k v<0
theorem aGx.none{es pre:List Ed}{n:Nat}{s:BF}(h:aGx es pre n s):s.ahd 0=0:=by
 refine h.zero 0 ?_;rcases Nat.eq_zero_or_pos (s.t 0)with h0|h0
 ·exact h0
 have:=(h.pos 0 h0).1.1;omega
theorem aGx.stay{es pre:List Ed}{n:Nat}{s:BF}(h:aGx es pre n s):∀k,itr s.ahd k 0=0
 | 0=>rfl
 | k+1=>by
  show itr s.ahd k (s.ahd 0)=0;rw[h.none];exact h.stay k
theorem aGx.chain{es pre:List Ed}{n:Nat}{s:BF}(h:aGx es pre n s){v:Int}(hv:inP v):∀(m:Nat) (u:Int),itr s.ahd m u=v→s.far v+sumI s.ahd s.w m u≤s.far u
 | 0,u,hu=>by
  have:u=v:=hu;subst this;simp[sumI]
 | m+1,u,hu=>by
  have hu':itr s.ahd m (s.ahd u)=v:=hu
  have h1:1≤s.t u:=by
   rcases Nat.eq_zero_or_pos (s.t u)with h0|h0
   ·rw[h.zero u h0,h.stay m]at hu';have:=hv.1;omega
   exact h0
  have h2:=(h.pos u h1).2.2.2.1;have h3:=h.chain hv m (s.ahd u) hu';show s.far v+(s.w u+sumI s.ahd s.w m (s.ahd u))≤s.far u;omega
theorem aGx.step{es pre:List Ed}{n:Nat}{s:BF}(h:aGx es pre n s)(hn:1≤n){e:Ed}(he:e∈es):aGx es (pre++[e]) n (aLw n s e):=by
 by_cases hc:okEd e∧s.far e.fr+e.co<s.far e.tt
 ·have hs:aLw n s e=⟨upI s.far e.tt (s.far e.fr+e.co),upI s.ahd e.tt e.fr,e.tt,fun p=>if p=e.tt then n else s.t p,upI s.w e.tt e.co⟩:=by unfold aLw;rw[if_pos hc]
  obtain⟨hok,hlt⟩:=hc
  have htu:n≤s.t e.fr+1:=by
   rcases Nat.lt_or_ge (s.t e.fr+1) n with h1|h1
   ·have:=h.a e he hok h1;omega
   exact h1
  have fle:∀x,upI s.far e.tt (s.far e.fr+e.co) x≤s.far x:=fun x=>by
   by_cases hx:x=e.tt
   ·subst hx;rw[aDb];omega
   rw[aD8 _ hx];exact Int.le_refl _
  rw[hs];refine⟨fun d hd hdo hdt=>?_,fun d hd hdo hdt=>?_,fun v=>?_,fun v hv=>?_,fun v hv=>?_,fun _=>?_,fun v k hk hit hv=>?_⟩
  ·dsimp only at hdt ⊢
   by_cases hx:d.fr=e.tt
   ·rw[if_pos hx]at hdt;omega
   rw[if_neg hx]at hdt;rw[aD8 _ hx];have:=h.a d hd hdo hdt;have:=fle d.tt;omega
  ·dsimp only at hdt ⊢
   by_cases hx:d.fr=e.tt
   ·rw[if_pos hx]at hdt;omega
   rw[if_neg hx]at hdt;rw[aD8 _ hx];rcases List.mem_append.1 hd with h1|h1
   ·have:=h.b d h1 hdo hdt;have:=fle d.tt;omega
   rw[List.mem_singleton]at h1;subst h1;rw[aDb];exact Int.le_refl _
  ·dsimp only;split
   ·exact Nat.le_refl _
   exact h.le v
  ·dsimp only at hv ⊢
   by_cases hx:v=e.tt
   ·subst hx;rw[aDb,aDb,aDb,if_pos rfl];refine⟨hok.2,hok.1,?_,?_,e,he,rfl,rfl,rfl⟩
    ·split
     ·omega
     omega
    by_cases hy:e.fr=e.tt
    ·rw[hy,aDb];rw[hy]at hlt;omega
    rw[aD8 _ hy];exact Int.le_refl _
   rw[if_neg hx]at hv;rw[if_neg hx,aD8 _ hx,aD8 _ hx,aD8 _ hx];obtain⟨p1,p2,p3,p4,p5⟩:=h.pos v hv;refine⟨p1,p2,?_,?_,p5⟩
   ·split
    ·rename_i hy;have:=h.le v;omega
    exact p3
   have:=fle (s.ahd v);omega
  ·dsimp only at hv ⊢
   by_cases hx:v=e.tt
   ·rw[if_pos hx]at hv;omega
   rw[if_neg hx]at hv;rw[aD8 _ hx];exact h.zero v hv
  ·dsimp only;rw[if_pos rfl]
  dsimp only at hit ⊢
  -- a round that goes over the new step
  have negv:∀k,1≤k→itr (upI s.ahd e.tt e.fr) k e.tt=e.tt→sumI (upI s.ahd e.tt e.fr) (upI s.w e.tt e.co) k e.tt<0:=by
   intro k
   induction k using Nat.strongRecOn with
   | _ k ih=>
    intro hk hit
    by_cases hm:∃m,1≤m∧m<k∧itr (upI s.ahd e.tt e.fr) m e.tt=e.tt
    ·obtain⟨m,m1,m2,m3⟩:=hm;have hkm:k=m+(k - m):=by omega
     have h2:itr (upI s.ahd e.tt e.fr) (k - m) e.tt=e.tt:=by
      have:=aIo (upI s.ahd e.tt e.fr) m (k - m) e.tt;rw[←hkm,hit,m3]at this;exact this.symm
     have h3:=aH2 (upI s.ahd e.tt e.fr) (upI s.w e.tt e.co) m (k - m) e.tt;rw[←hkm,m3]at h3;have i1:=ih m m2 m1 m3;have i2:=ih (k - m) (by omega) (by omega) h2;omega
    match k,hk,hit with
    | k+1,_,hit=>
     have hf:upI s.ahd e.tt e.fr e.tt=e.fr:=aDb _ _ _
     have hit':itr (upI s.ahd e.tt e.fr) k e.fr=e.tt:=by
      have:itr (upI s.ahd e.tt e.fr) k (upI s.ahd e.tt e.fr e.tt)=e.tt:=hit
      rwa [hf]at this
     obtain⟨o1,o2⟩:=aNg (f:=s.ahd) (w:=s.w) (v:=e.tt) (u:=e.fr) (c:=e.co) k e.fr (fun i hi hz=>hm ⟨i+1,by omega,by omega,by
      show itr (upI s.ahd e.tt e.fr) i (upI s.ahd e.tt e.fr e.tt)=e.tt;rw[hf];exact hz⟩)
     rw[hit']at o1;have hc:=h.chain hok.2 k e.fr o1.symm;show upI s.w e.tt e.co e.tt+sumI (upI s.ahd e.tt e.fr) (upI s.w e.tt e.co) k (upI s.ahd e.tt e.fr e.tt)<0;rw[hf,aDb,o2];omega
  by_cases hex:∃j,j<k∧itr (upI s.ahd e.tt e.fr) j v=e.tt
  ·obtain⟨j,j1,j2⟩:=hex
   have h1:itr (upI s.ahd e.tt e.fr) k e.tt=e.tt:=by
    have a1:=aIo (upI s.ahd e.tt e.fr) j k v;have a2:=aIo (upI s.ahd e.tt e.fr) k j v;rw[j2]at a1;rw[hit,j2]at a2;rw[←a1,Nat.add_comm,a2]
   have b1:=aH2 (upI s.ahd e.tt e.fr) (upI s.w e.tt e.co) j k v;have b2:=aH2 (upI s.ahd e.tt e.fr) (upI s.w e.tt e.co) k j v;rw[j2]at b1;rw[hit,Nat.add_comm]at b2;have:=negv k hk h1;omega
  obtain⟨o1,o2⟩:=aNg (f:=s.ahd) (w:=s.w) (v:=e.tt) (u:=e.fr) (c:=e.co) k v (fun i hi hz=>hex ⟨i,hi,hz⟩);rw[hit]at o1;rw[o2];exact h.neg v k hk o1.symm hv
 have hs:aLw n s e=s:=by unfold aLw;rw[if_neg hc]
 rw[hs];refine⟨h.a,fun d hd hdo hdt=>?_,h.le,h.pos,h.zero,h.pt,h.neg⟩;rcases List.mem_append.1 hd with h1|h1
 ·exact h.b d h1 hdo hdt
 rw[List.mem_singleton]at h1;subst h1;rcases Int.lt_or_le (s.far d.fr+d.co) (s.far d.tt)with h2|h2
 ·exact absurd ⟨hdo,h2⟩ hc
 exact h2
theorem aGx.go{es:List Ed}{n:Nat}(hn:1≤n):∀(l pre:List Ed) (s:BF),aGx es pre n s→(∀e∈l,e∈es)→aGx es (pre++l) n (l.foldl (aLw n) s)
 | [],pre,s,h,_=>by rw[List.append_nil];exact h
 | e::l,pre,s,h,hl=>by
  rw[List.foldl_cons,show pre++e::l=(pre++[e])++l by simp];exact aGx.go hn l (pre++[e]) (aLw n s e) (h.step hn (hl e (List.mem_cons_self ..))) (fun d hd=>hl d (List.mem_cons_of_mem _ hd))
theorem pigeon:∀(n:Nat) (f:Nat→Nat),(∀i,i≤n→f i<n)→∃i j,i<j∧j≤n∧f i=f j
 | 0,f,h=>absurd (h 0 yL) (by omega)
 | n+1,f,h=>by
  by_cases hx:∃i,i≤n∧f i=f (n+1)
  ·obtain⟨i,hi,he⟩:=hx;exact⟨i,n+1,by omega,Nat.le_refl _,he⟩
  have hne:∀i,i≤n→f i≠f (n+1):=fun i hi he=>hx ⟨i,hi,he⟩
  have hlast:=h (n+1) yL
  obtain⟨i,j,h1,h2,h3⟩:=pigeon n (fun i=>if f (n+1)<f i then f i - 1 else f i) (fun i hi=>by
   have:=h i (by omega);have:=hne i hi
   try dsimp only
   split <;> omega)
  refine⟨i,j,h1,by omega,?_⟩;have a1:=hne i (by omega);have a2:=hne j (by omega)
  try dsimp only at h3
  split at h3 <;> split at h3 <;> omega
def wk(f:Int→Int→Int):Nat→Int→Int→Prop
 | 0,p,q=>p=q
 | n+1,p,q=>∃r,0<f p r∧wk f n r q
theorem aLx{f:Int→Int→Int}:∀{m n:Nat} {p r q:Int},wk f m p r→wk f n r q→wk f (m+n) p q
 | 0,n,p,r,q,h1,h2=>by
  have:p=r:=h1;subst this;rw[Nat.zero_add];exact h2
 | m+1,n,p,r,q,⟨x,h1,h3⟩,h2=>by
  rw[Nat.add_right_comm];exact⟨x,h1,aLx h3 h2⟩
theorem wk_one{f:Int→Int→Int}{p q:Int}(h:0<f p q):wk f 1 p q:=⟨q,h,rfl⟩
theorem wk_split{f:Int→Int→Int}:∀{m n:Nat} {p q:Int},wk f (m+n) p q→∃r,wk f m p r∧wk f n r q
 | 0,n,p,q,h=>⟨p,rfl,by rwa [Nat.zero_add]at h⟩
 | m+1,n,p,q,h=>by
  rw[Nat.add_right_comm]at h;obtain⟨x,h1,h2⟩:=h;obtain⟨r,h3,h4⟩:=wk_split h2;exact⟨r,⟨x,h1,h3⟩,h4⟩
theorem wk_last{f:Int→Int→Int}{n:Nat}{p q:Int}(h:wk f (n+1) p q):∃r,wk f n p r∧0<f r q:=by
 obtain⟨r,h1,x,h2,h3⟩:=wk_split (m:=n) (n:=1) h;have:x=q:=h3;subst this;exact⟨r,h1,h2⟩
def parts:List Int:=(List.range 16).map fun i:Nat=>(i:Int)+1
theorem aIp{p:Int}:p∈parts↔inP p:=by
 unfold parts inP;simp only[List.mem_map,List.mem_range]
 constructor
 ·rintro⟨i,hi,rfl⟩;omega
 rintro⟨h1,h2⟩;exact⟨p.toNat - 1,by omega,by omega⟩
theorem aLy(i:Nat)(h:i<parts.length):parts[i]=(i:Int)+1:=by simp[parts]
theorem aLz:parts.length=16:=by simp[parts]
def inS(f:Int→Int→Int)(p:Int):Nat→Int→Bool
 | 0,q=>q==p
 | n+1,q=>inS f p n q || parts.any fun r=>inS f p n r && decide (0<f r q)
theorem aA6{f:Int→Int→Int}{B:Int}(h:GInv f B)(p:Int):∀(n:Nat) (q:Int),inS f p n q=true↔∃m,m≤n∧wk f m p q
 | 0,q=>by
  unfold inS;rw[beq_iff_eq]
  constructor
  ·rintro rfl;exact⟨0,Nat.le_refl _,rfl⟩
  ·rintro⟨m,hm,hw⟩;have:m=0:=by omega
   subst this;exact(show p=q from hw).symm
 | n+1,q=>by
  show(inS f p n q || parts.any fun r=>inS f p n r && decide (0<f r q))=true↔_;rw[Bool.or_eq_true,List.any_eq_true]
  constructor
  ·rintro(h1|⟨r,hr,h2⟩)
   ·obtain⟨m,hm,hw⟩:=(aA6 h p n q).1 h1;exact⟨m,by omega,hw⟩
   rw[Bool.and_eq_true,decide_eq_true_eq]at h2;obtain⟨m,hm,hw⟩:=(aA6 h p n r).1 h2.1;exact⟨m+1,by omega,aLx hw (wk_one h2.2)⟩
  rintro⟨m,hm,hw⟩
  by_cases hmn:m≤n
  ·exact .inl ((aA6 h p n q).2 ⟨m,hmn,hw⟩)
  have:m=n+1:=by omega
  subst this;obtain⟨r,h1,h2⟩:=wk_last hw;refine .inr ⟨r,aIp.2 (h.ends h2).1,?_⟩;rw[Bool.and_eq_true,decide_eq_true_eq];exact⟨(aA6 h p n r).2 ⟨n,Nat.le_refl _,h1⟩,h2⟩
theorem aD3{f:Int→Int→Int}{p q:Int}{n m:Nat}(hn:n≤m)(h:inS f p n q=true):inS f p m q=true:=by
 induction m with
 | zero=>
      have:n=0:=by omega
      subst this;exact h
 | succ m ih=>
  by_cases hm:n≤m
  ·show(inS f p m q || _)=true;rw[ih hm];rfl
  have:n=m+1:=by omega
  subst this;exact h
theorem aH3{f:Int→Int→Int}:∀{m:Nat} {p q:Int},wk f m p q↔∃x:Nat→Int,x 0=p∧x m=q∧∀i,i<m→0<f (x i) (x (i+1))
 | 0,p,q=>by
  constructor
  ·intro h;exact⟨fun _=>p,rfl,h,fun i hi=>by omega⟩
  ·rintro⟨x,h1,h2,_⟩;exact h1.symm.trans h2
 | m+1,p,q=>by
  constructor
  ·rintro⟨r,h1,h2⟩;obtain⟨x,h3,h4,h5⟩:=aH3.1 h2;refine⟨fun i=>match i with|0=>p|i+1=>x i,rfl,h4,fun i hi=>?_⟩
   match i with
   | 0=>show 0<f p (x 0);rw[h3];exact h1
   | i+1=>exact h5 i (by omega)
  rintro⟨x,h1,h2,h3⟩;refine⟨x 1,?_,aH3.2 ⟨fun i=>x (i+1),rfl,h2,fun i hi=>h3 (i+1) (by omega)⟩⟩;rw[←h1];exact h3 0 (by omega)
theorem wk_short{f:Int→Int→Int}{B:Int}(h:GInv f B){p q:Int}:∀(m:Nat),wk f m p q→∃k,k≤15∧wk f k p q:=by
 intro m
 induction m using Nat.strongRecOn with
 | _ m ih=>
  intro hw
  by_cases hm:m≤15
  ·exact⟨m,hm,hw⟩
  obtain⟨x,h1,h2,h3⟩:=aH3.1 hw
  have hin:∀i,i≤16→inP (x i):=by
   intro i hi
   by_cases h0:i=0
   ·subst h0;exact(h.ends (h3 0 (by omega))).1
   have:=h3 (i - 1) (by omega);rw[show i - 1+1=i by omega]at this;exact(h.ends this).2.1
  obtain⟨i,j,c1,c2,c3⟩:=pigeon 16 (fun i=>(x i).toNat - 1) (fun i hi=>by
   have:=hin i hi;unfold inP at this
   try dsimp only
   omega)
  have hij:x i=x j:=by
   have a:=hin i (by omega);have b:=hin j c2;unfold inP at a b
   try dsimp only at c3
   omega
  have hw':wk f (m - (j - i)) p q:=by
   refine aH3.2 ⟨fun k=>if k≤i then x k else x (k+(j - i)),?_,?_,fun k hk=>?_⟩
   ·try dsimp only
    rw[if_pos (by omega)];exact h1
   ·try dsimp only
    by_cases hz:m - (j - i)≤i
    ·rw[if_pos hz,←h2];have:m=j:=by omega
     rw[show m - (j - i)=i by omega,this];exact hij
    rw[if_neg hz,←h2];congr 1;omega
   try dsimp only
   by_cases k1:k+1≤i
   ·rw[if_pos (by omega),if_pos k1];exact h3 k (by omega)
   rw[if_neg k1]
   by_cases k2:k≤i
   ·have:k=i:=by omega
    subst this;rw[if_pos k2,hij,show k+1+(j - k)=j+1 by omega];exact h3 j (by omega)
   rw[if_neg k2,show k+1+(j - i)=(k+(j - i))+1 by omega];exact h3 (k+(j - i)) (by omega)
  exact ih (m - (j - i)) (by omega) hw'
theorem aKs{f:Int→Int→Int}{B:Int}(h:GInv f B){p q:Int}{m:Nat}(hw:wk f m p q):inS f p 15 q=true:=by
 obtain⟨k,h1,h2⟩:=wk_short h m hw;exact(aA6 h p 15 q).2 ⟨k,h1,h2⟩
def dst(f:Int→Int→Int)(p q:Int):Nat:=((List.range 17).find? fun n=>inS f p n q).getD 0
theorem aL0{f:Int→Int→Int}{p q:Int}{n:Nat}(hn:n≤16)(h:inS f p n q=true)(hm:∀m,m<n→inS f p m q=false):dst f p q=n:=by
 unfold dst
 have:(List.range 17).find? (fun n=>inS f p n q)=some n:=by
  rw[List.find?_eq_some_iff_getElem];refine⟨h,n,by simp;omega,by simp,fun j hj=>?_⟩;simp[hm j hj]
 rw[this];rfl
theorem aEk{f:Int→Int→Int}{p q:Int}(h:inS f p 16 q=true):inS f p (dst f p q) q=true∧dst f p q≤16∧∀m,m<dst f p q→inS f p m q=false:=by
 have key:∀n,n≤16→inS f p n q=true→∃k,k≤n∧inS f p k q=true∧∀m,m<k→inS f p m q=false:=by
  intro n
  induction n using Nat.strongRecOn with
  | _ n ih=>
   intro hn h1
   by_cases hx:∃m,m<n∧inS f p m q=true
   ·obtain⟨m,m1,m2⟩:=hx;obtain⟨k,k1,k2⟩:=ih m m1 (by omega) m2;exact⟨k,by omega,k2⟩
   refine⟨n,Nat.le_refl _,h1,fun m hm=>?_⟩
   cases hb:inS f p m q with
   | false=>rfl
   | true=>exact absurd ⟨m,hm,hb⟩ hx
 obtain⟨k,k1,k2,k3⟩:=key 16 yL h;rw[aL0 k1 k2 k3];exact⟨k2,k1,k3⟩
def nxt(f:Int→Int→Int)(b:Int)(n:Nat)(p:Int):Int:=(parts.find? fun q=>decide (0<f p q) && inS f q n b).getD 0
def goS(f:Int→Int→Int)(b:Int):Nat→Int→List Int
 | 0,p=>[p]
 | n+1,p=>p::goS f b n (nxt f b n p)
def aAr(f:Int→Int→Int)(a b:Int):List Int:=if inP a∧inP b∧a≠b∧inS f a 16 b=true then goS f b (dst f a b) a else []
theorem aC5(f:Int→Int→Int)(b:Int):∀(n:Nat) (p:Int),(goS f b n p).length=n+1
 | 0,p=>rfl
 | n+1,p=>by show(goS f b n _).length+1=_;rw[aC5 f b n]
theorem parts_find{q:Int→Bool}{x:Int}(hx:inP x)(h:q x=true)(hm:∀y,inP y→y<x→q y=false):parts.find? q=some x:=by
 rw[List.find?_eq_some_iff_getElem];have hx':=hx;unfold inP at hx';refine⟨h,x.toNat - 1,by unfold parts;simp;omega,by unfold parts;simp;omega,fun j hj=>?_⟩
 have:q (parts[j]'(by unfold parts;simp;omega))=false:=by
  refine hm _ ?_ ?_
  ·unfold parts inP;simp;omega
  unfold parts;simp;omega
 simp[this]
theorem nxt_spec{f:Int→Int→Int}{B:Int}(h:GInv f B){p b:Int}{n:Nat}(h1:inS f p (n+1) b=true)(h2:inS f p n b=false)(hb:∀m,m≤n→inS f p m b=false):
  inP (nxt f b n p)∧0<f p (nxt f b n p)∧inS f (nxt f b n p) n b=true∧(∀m,m<n→inS f (nxt f b n p) m b=false)∧∀y,inP y→y<nxt f b n p→¬(0<f p y∧inS f y n b=true):=by
 obtain⟨m,hm,hw⟩:=(aA6 h p (n+1) b).1 h1
 have hmn:m=n+1:=by
  rcases Nat.lt_or_ge n m with h3|h3
  ·omega
  have:=(aA6 h p n b).2 ⟨m,h3,hw⟩;rw[h2]at this;cases this
 subst hmn;obtain⟨r,r1,r2⟩:=hw
 have hr:(decide (0<f p r) && inS f r n b)=true:=by
  rw[Bool.and_eq_true,decide_eq_true_eq];exact⟨r1,(aA6 h r n b).2 ⟨n,Nat.le_refl _,r2⟩⟩
 cases hf:parts.find? fun q=>decide (0<f p q) && inS f q n b with
 | none=>
  have:=List.find?_eq_none.1 hf r (aIp.2 (h.ends r1).2.1);exact absurd hr this
 | some x=>
  have hx:nxt f b n p=x:=by unfold nxt;rw[hf];rfl
  rw[hx];obtain⟨hq,i,hi,hxi,hlt⟩:=List.find?_eq_some_iff_getElem.1 hf;rw[Bool.and_eq_true,decide_eq_true_eq]at hq;have hinx:inP x:=aIp.1 (List.mem_of_find?_eq_some hf);refine⟨hinx,hq.1,hq.2,fun m hm=>?_,fun y hy hyx hc=>?_⟩
  ·cases hc:inS f x m b with
   | false=>rfl
   | true=>
    obtain⟨k,k1,k2⟩:=(aA6 h x m b).1 hc;have:=(aA6 h p (m+1) b).2 ⟨k+1,by omega,x,hq.1,k2⟩;rw[hb (m+1) (by omega)]at this
    cases this
  unfold inP at hy hinx;have hpi:=aLy i hi;rw[aLz]at hi;have hj:y.toNat - 1<i:=by omega
  have:=hlt (y.toNat - 1) hj;have hy2:parts[y.toNat - 1]'(by rw[aLz];omega)=y:=by rw[aLy];omega
  rw[hy2]at this;simp[hc.1,hc.2]at this
structure LeftI(f:Int→Int→Int)(b:Int)(n:Nat)(done:Int→Int→Prop)(left:Int→Int):Prop where
 lo:∀p,0≤left p∧left p≤99
 way:∀p,left p=99∨wk f (left p).toNat p b
 all:∀p m,m≤n→wk f m p b→left p≤m
 cur:∀p r,done p r→0<f p r→∀m,m≤n→wk f m r b→left p≤m+1
theorem LeftI.pass{f:Int→Int→Int}{B:Int}(g:GInv f B){b:Int}{n:Nat}{done:Int→Int→Prop}{left:Int→Int}(h:LeftI f b n done left)(hd:∀p r,inP p→inP r→done p r):LeftI f b (n+1) (fun _ _=>False) left:=by
 refine⟨h.lo,h.way,fun p m hm hw=>?_,fun p r hd=>hd.elim⟩
 match m,hm,hw with
 | 0,_,hw=>exact h.all p 0 (by omega) hw
 | m+1,hm,⟨r,h1,h2⟩=>
  obtain⟨e1,e2,_⟩:=g.ends h1;have:=h.cur p r (hd p r e1 e2) h1 m (by omega) h2;omega
theorem goS_at{f:Int→Int→Int}{B:Int}(g:GInv f B){b:Int}:∀(n:Nat) (p:Int),inP p→inS f p 16 b=true→dst f p b=n→
  ∀i (hi:i<(goS f b n p).length),inP (goS f b n p)[i]∧inS f (goS f b n p)[i] 16 b=true∧dst f (goS f b n p)[i] b+i=n∧
   ∀(hj:i+1<(goS f b n p).length),0<f (goS f b n p)[i] (goS f b n p)[i+1]∧∀z,inP z→z<(goS f b n p)[i+1]→0<f (goS f b n p)[i] z→¬(inS f z 16 b=true∧dst f z b+(i+1)=n)
 | 0,p,hp,hr,hd,i,hi=>by
  have h0:i=0:=by rw[aC5]at hi;omega
  subst h0;exact⟨hp,hr,hd,fun hj=>by rw[aC5]at hj;omega⟩
 | n+1,p,hp,hr,hd,i,hi=>by
  obtain⟨d1,d2,d3⟩:=aEk hr;rw[hd]at d1 d2 d3;obtain⟨n1,n2,n3,n4,n5⟩:=nxt_spec g d1 (d3 n (by omega)) (fun m hm=>d3 m (by omega));have hdn:=aL0 (by omega) n3 n4;have ih:=goS_at g n (nxt f b n p) n1 (aD3 (by omega) n3) hdn;have hlen:=aC5 f b n (nxt f b n p);have hl1:(goS f b (n+1) p).length=n+2:=aC5 f b (n+1) p
  match i,hi with
  | 0,hi=>
   refine⟨hp,hr,hd,fun hj=>?_⟩
   have e:(goS f b (n+1) p)[0+1]=nxt f b n p:=by
    show(goS f b n (nxt f b n p))[0]'(by rw[hlen];omega)=nxt f b n p
    cases n <;> rfl
   rw[e];refine⟨n2,fun z hz hzl hf hc=>n5 z hz hzl ⟨hf,?_⟩⟩;have:=(aEk hc.1).1;rw[show dst f z b=n by have:=hc.2;omega]at this;exact this
  | i+1,hi=>
   have hi':i<(goS f b n (nxt f b n p)).length:=by rw[hlen];rw[hl1]at hi;omega
   obtain⟨i1,i2,i3,i4⟩:=ih i hi';refine⟨i1,i2,?_,fun hj=>?_⟩
   ·show dst f ((goS f b n (nxt f b n p))[i]'hi') b+(i+1)=n+1;omega
   have hj':i+1<(goS f b n (nxt f b n p)).length:=by rw[hlen];rw[hl1]at hj;omega
   obtain⟨j1,j2⟩:=i4 hj';refine⟨j1,fun z hz hzl hf hc=>j2 z hz hzl hf ⟨hc.1,?_⟩⟩;have:=hc.2;omega
theorem goS_head(f:Int→Int→Int)(b:Int)(n:Nat)(p:Int):(goS f b n p)[0]'(by rw[aC5];omega)=p:=by cases n <;> rfl
theorem goS_last{f:Int→Int→Int}{B:Int}(g:GInv f B){b p:Int}{n:Nat}(hp:inP p)(hr:inS f p 16 b=true)(hd:dst f p b=n):(goS f b n p)[n]'(by rw[aC5];omega)=b:=by
 obtain⟨h1,h2,h3,_⟩:=goS_at g n p hp hr hd n (by rw[aC5];omega);have h4:dst f ((goS f b n p)[n]'(by rw[aC5];omega)) b=0:=by omega
 have h5:=(aEk h2).1;rw[h4]at h5;have:(b==(goS f b n p)[n]'(by rw[aC5];omega))=true:=h5;exact(beq_iff_eq.1 this).symm
end Go.Proofs.YtaeocliklpcgmaaGreat
