/- Pieces of one proof. -/
import Derived.Test.YtojbmnbphdcjfaaGreatP02
import Derived.OwnWalk
import Derived.BigQuiet
import Derived.Laws.AppendOwnNone
set_option linter.all false
set_option maxHeartbeats 64000000
set_option maxRecDepth 100000
namespace Go.Proofs.YtojbmnbphdcjfaaGreat
open Go.RowKit
def aDb(w:World)(v:Value)(size n:Nat)(xs:List Value):Prop:=
 ∃(ao:Option Addr) (cap:Nat),v=.slice ao n cap∧n≤100000000∧xs.length=n*size∧(0<n→∃b off,ao=some ⟨b,off,none⟩∧b<w.heap.size∧∀j,j<n*size→w.cell? ⟨b,off+j,none⟩=xs[j]?)
theorem pAF{w:World}{base:Nat}{e:TypeId}{size:Nat}{v:Value}{n:Nat}{xs:List Value}(h:w.ownsRow base e size v n xs)(hn:n≤100000000):aDb w v size n xs:=by
 obtain⟨ao,cap,rfl,_,_,h3,h4⟩:=aAd h;refine⟨ao,cap,rfl,hn,h3,fun hp=>?_⟩;obtain⟨b,rfl,_,hb,hc,_⟩:=h4 hp;exact⟨b,0,rfl,hb,fun j hj=>by rw[Nat.zero_add];exact hc j hj⟩
theorem aDb.keep{S:Nat→Prop}{w w':World}{v:Value}{size n:Nat}{xs:List Value}(h:aDb w v size n xs)(k:Keep S w w')(hs:∀b,v.ownBlock=some b→¬S b):aDb w' v size n xs:=by
 obtain⟨ao,cap,rfl,h1,h2,h3⟩:=h;refine⟨ao,cap,rfl,h1,h2,fun hp=>?_⟩;obtain⟨b,off,rfl,hb,hc⟩:=h3 hp;exact⟨b,off,rfl,yM hb k.size,fun j hj=>by rw[k.cell (p:=⟨b,off+j,none⟩) hb (hs b rfl)];exact hc j hj⟩
theorem aDb.below{w w':World}{v:Value}{size n:Nat}{xs:List Value}(h:aDb w v size n xs)(k:Below w.heap.size w w'):aDb w' v size n xs:=
 h.keep (pAE (S:=fun _=>False) k) (fun _ _=>id)
theorem aGf{α:Type}{l m:List α}{k:Nat}(h:k<l.length)(hm:k<m.length)(he:l.take k=m.take k)(hx:l[k]=m[k]):l.take (k+1)=m.take (k+1):=by
 rw[List.take_succ_eq_append_getElem h,List.take_succ_eq_append_getElem hm,he,hx]
theorem aNg{w:World}{va vb:Value}{la lb:List Int}(ha:aDb w va 1 la.length (la.map (.int .u8)))(hb:aDb w vb 1 lb.length (lb.map (.int .u8))):
  Calls Tryz.prog 151 #[va,vb] w (yR w (.bool (decide (la=lb)))):=by
 obtain⟨ao,ca,rfl,a1,a2,a3⟩:=ha;obtain⟨bo,cb,rfl,b1,b2,b3⟩:=hb;have HA:=yH a3;have HB:=yH b3;clear a2 a3 b2 b3
 by_cases hlen:la.length=lb.length
 ·have L:=yH hlen;have hll:lb.length=la.length:=hlen.symm;rw[hll];clear hll hlen b1;go_enter Tryz.func151,Tryz.ntmps151;go_wp2
  go_loopw [5] (fun i wr=>∃k:Nat,k≤la.length∧i=.int .i64 k∧Hid (la.take k=lb.take k)∧Below w.heap.size w wr) (fun i _=>la.length - (intOf i).toNat)
  case atStart=>exact⟨0,Nat.zero_le _,rfl,yH (by simp),yZ⟩
  obtain⟨k,hk,rfl,ht,hbl⟩:=hrel;have BL:=yH hbl
  by_cases hkl:k<la.length
  ·have hkb:k<lb.length:=by have:=L.out;omega
   obtain⟨b1,o1,rfl,hlt1,hc1⟩:=HA.out (by omega);obtain⟨b2,o2,rfl,hlt2,hc2⟩:=HB.out (by omega);have HC1:=yH (fun j (hj:j<la.length*1)=>(hbl.cell (p:=⟨b1,o1+j,none⟩) hlt1).trans (hc1 j hj));have HC2:=yH (fun j (hj:j<lb.length*1)=>(hbl.cell (p:=⟨b2,o2+j,none⟩) hlt2).trans (hc2 j hj));have d1:wr.cell? ⟨b1,o1+k,none⟩=some (.int .u8 la[k]):=by rw[HC1.out k (by omega)];simp[hkl]
   have d2:wr.cell? ⟨b2,o2+k,none⟩=some (.int .u8 lb[k]):=by rw[HC2.out k (by omega)];simp[hkb]
   have hz1:b1<wr.heap.size:=yM hlt1 hbl.size;have hz2:b2<wr.heap.size:=yM hlt2 hbl.size
   have NE:=yH (fun(he:la[k]≠lb[k])=>show decide (la=lb)=false by
    rw[decide_eq_false_iff_not];rintro rfl;exact he rfl)
   have EQ:=yH (fun(he:la[k]=lb[k])=>aGf hkl hkb ht.out he);clear hc1 hc2 HC1 HC2 hbl;generalize la[k]=x at *;generalize lb[k]=y at *
   by_cases he:x=y
   ·subst he;go_wp2
    go_region
    all_goals
     go_wp2;go_roundw
     case rel=>exact⟨k+1,by omega,by go_num,yH (EQ.out (by first|exact rfl|trivial)),by first|exact BL.out.drew|exact BL.out⟩
     case measure=>simp[intOf];omega
   have q:(x==y)=false:=by simp[he]
   have E:=yH (NE.out he);clear he NE EQ;go_wp2
   go_region
   all_goals
    go_wp2;go_ret;exact⟨by rw[E.out];rfl,by first|exact BL.out.drew|exact BL.out⟩
  have E:=yH (show decide (la=lb)=true by
   have h1:=ht.out;rw[List.take_of_length_le (by omega),List.take_of_length_le (by have:=L.out;omega)]at h1;rw[decide_eq_true_eq];exact h1)
  go_wp2;go_ret;exact⟨by rw[E.out];rfl,BL.out⟩
 have E:=yH (show decide (la=lb)=false by rw[decide_eq_false_iff_not];rintro rfl;exact hlen rfl);have q:((la.length:Int)==(lb.length:Int))=false:=by simp;omega
 clear hlen;go_enter Tryz.func151,Tryz.ntmps151;go_wp2;go_ret;exact⟨by rw[E.out];rfl,yZ⟩
theorem ln_parts(x y:Ln):(x=y)∨(x≠y∧(x.cr==y.cr)=false)∨(x≠y∧(x.cr==y.cr)=true∧(x.de==y.de)=false)∨(x≠y∧(x.cr==y.cr)=true∧(x.de==y.de)=true∧(x.cu==y.cu)=false)∨(x≠y∧(x.cr==y.cr)=true∧(x.de==y.de)=true∧(x.cu==y.cu)=true∧(x.li==y.li)=false)∨(x≠y∧(x.cr==y.cr)=true∧(x.de==y.de)=true∧(x.cu==y.cu)=true∧(x.li==y.li)=true∧(x.db==y.db)=false):=by
 obtain⟨a,b,c,d,e⟩:=x;obtain⟨a',b',c',d',e'⟩:=y
 by_cases h1:a=a' <;> by_cases h2:b=b' <;> by_cases h3:c=c' <;> by_cases h4:d=d' <;> by_cases h5:e=e' <;> simp[h1,h2,h3,h4,h5]
theorem aOw{w:World}{va vb:Value}{la lb:List Ln}(ha:aDb w va 5 la.length (aA0 la))(hb:aDb w vb 5 lb.length (aA0 lb)):
  Calls Tryz.prog 52 #[va,vb] w (yR w (.bool (decide (la=lb)))):=by
 obtain⟨ao,ca,rfl,a1,a2,a3⟩:=ha;obtain⟨bo,cb,rfl,b1,b2,b3⟩:=hb;have HA:=yH a3;have HB:=yH b3;clear a2 a3 b2 b3
 by_cases hlen:la.length=lb.length
 ·have L:=yH hlen;have hll:lb.length=la.length:=hlen.symm;rw[hll];clear hll hlen b1;go_enter Tryz.func52,Tryz.ntmps52;go_wp2
  go_loopw [5] (fun i wr=>∃k:Nat,k≤la.length∧i=.int .i64 k∧Hid (la.take k=lb.take k)∧Below w.heap.size w wr) (fun i _=>la.length - (intOf i).toNat)
  case atStart=>exact⟨0,Nat.zero_le _,rfl,yH (by simp),yZ⟩
  obtain⟨k,hk,rfl,ht,hbl⟩:=hrel;have BL:=yH hbl
  by_cases hkl:k<la.length
  ·have hkb:k<lb.length:=by have:=L.out;omega
   obtain⟨b1,o1,rfl,hlt1,hc1⟩:=HA.out (by omega);obtain⟨b2,o2,rfl,hlt2,hc2⟩:=HB.out (by omega);have HC1:=yH (fun j (hj:j<la.length*5)=>(hbl.cell (p:=⟨b1,o1+j,none⟩) hlt1).trans (hc1 j hj));have HC2:=yH (fun j (hj:j<lb.length*5)=>(hbl.cell (p:=⟨b2,o2+j,none⟩) hlt2).trans (hc2 j hj))
   have d0:wr.cell? ⟨b1,o1+k*5,none⟩=some (.int .u8 la[k].cr):=by
    have q1:=HC1.out (k*5+0) (by omega);rw[aA7 la k 0 (by omega) hkl]at q1
    first|exact q1|(rw[←Nat.add_assoc]at q1;exact q1)
   have d1:wr.cell? ⟨b1,o1+k*5+1,none⟩=some (.int .u8 la[k].de):=by
    have q1:=HC1.out (k*5+1) (by omega);rw[aA7 la k 1 (by omega) hkl]at q1
    first|exact q1|(rw[←Nat.add_assoc]at q1;exact q1)
   have d2:wr.cell? ⟨b1,o1+k*5+2,none⟩=some (.int .u8 la[k].cu):=by
    have q1:=HC1.out (k*5+2) (by omega);rw[aA7 la k 2 (by omega) hkl]at q1
    first|exact q1|(rw[←Nat.add_assoc]at q1;exact q1)
   have d3:wr.cell? ⟨b1,o1+k*5+3,none⟩=some (.int .i64 la[k].li):=by
    have q1:=HC1.out (k*5+3) (by omega);rw[aA7 la k 3 (by omega) hkl]at q1
    first|exact q1|(rw[←Nat.add_assoc]at q1;exact q1)
   have d4:wr.cell? ⟨b1,o1+k*5+4,none⟩=some (.int .i64 la[k].db):=by
    have q1:=HC1.out (k*5+4) (by omega);rw[aA7 la k 4 (by omega) hkl]at q1
    first|exact q1|(rw[←Nat.add_assoc]at q1;exact q1)
   have f0:wr.cell? ⟨b2,o2+k*5,none⟩=some (.int .u8 lb[k].cr):=by
    have q1:=HC2.out (k*5+0) (by omega);rw[aA7 lb k 0 (by omega) hkb]at q1
    first|exact q1|(rw[←Nat.add_assoc]at q1;exact q1)
   have f1:wr.cell? ⟨b2,o2+k*5+1,none⟩=some (.int .u8 lb[k].de):=by
    have q1:=HC2.out (k*5+1) (by omega);rw[aA7 lb k 1 (by omega) hkb]at q1
    first|exact q1|(rw[←Nat.add_assoc]at q1;exact q1)
   have f2:wr.cell? ⟨b2,o2+k*5+2,none⟩=some (.int .u8 lb[k].cu):=by
    have q1:=HC2.out (k*5+2) (by omega);rw[aA7 lb k 2 (by omega) hkb]at q1
    first|exact q1|(rw[←Nat.add_assoc]at q1;exact q1)
   have f3:wr.cell? ⟨b2,o2+k*5+3,none⟩=some (.int .i64 lb[k].li):=by
    have q1:=HC2.out (k*5+3) (by omega);rw[aA7 lb k 3 (by omega) hkb]at q1
    first|exact q1|(rw[←Nat.add_assoc]at q1;exact q1)
   have f4:wr.cell? ⟨b2,o2+k*5+4,none⟩=some (.int .i64 lb[k].db):=by
    have q1:=HC2.out (k*5+4) (by omega);rw[aA7 lb k 4 (by omega) hkb]at q1
    first|exact q1|(rw[←Nat.add_assoc]at q1;exact q1)
   have hz1:b1<wr.heap.size:=yM hlt1 hbl.size;have hz2:b2<wr.heap.size:=yM hlt2 hbl.size
   have NE:=yH (fun(he:la[k]≠lb[k])=>show decide (la=lb)=false by
    rw[decide_eq_false_iff_not];rintro rfl;exact he rfl)
   have EQ:=yH (fun(he:la[k]=lb[k])=>aGf hkl hkb ht.out he);clear hc1 hc2 HC1 HC2 hbl;generalize la[k]=x at *;generalize lb[k]=y at *;have hs:(x=y)∨(x≠y∧(x.cr==y.cr)=false)∨(x≠y∧(x.cr==y.cr)=true∧(x.de==y.de)=false)∨(x≠y∧(x.cr==y.cr)=true∧(x.de==y.de)=true∧(x.cu==y.cu)=false)∨(x≠y∧(x.cr==y.cr)=true∧(x.de==y.de)=true∧(x.cu==y.cu)=true∧(x.li==y.li)=false)∨(x≠y∧(x.cr==y.cr)=true∧(x.de==y.de)=true∧(x.cu==y.cu)=true∧(x.li==y.li)=true∧(x.db==y.db)=false):=ln_parts x y;rcases hs with rfl|⟨he,s1⟩|⟨he,s1,s2⟩|⟨he,s1,s2,s3⟩|⟨he,s1,s2,s3,s4⟩|⟨he,s1,s2,s3,s4,s5⟩
   ·clear NE;go_wp2
    go_region
    all_goals
     go_wp2;go_roundw
     case rel=>exact⟨k+1,by omega,by go_num,yH (EQ.out (by first|exact rfl|trivial)),by first|exact BL.out.drew|exact BL.out⟩
     case measure=>simp[intOf];omega
   ·have E:=yH (NE.out he);clear he NE EQ;go_wp2
    go_region
    all_goals
     go_wp2;go_ret;exact⟨by rw[E.out];rfl,by first|exact BL.out.drew|exact BL.out⟩
   ·have E:=yH (NE.out he);clear he NE EQ;go_wp2
    go_region
    all_goals
     go_wp2;go_ret;exact⟨by rw[E.out];rfl,by first|exact BL.out.drew|exact BL.out⟩
   ·have E:=yH (NE.out he);clear he NE EQ;go_wp2
    go_region
    all_goals
     go_wp2;go_ret;exact⟨by rw[E.out];rfl,by first|exact BL.out.drew|exact BL.out⟩
   ·have E:=yH (NE.out he);clear he NE EQ;go_wp2
    go_region
    all_goals
     go_wp2;go_ret;exact⟨by rw[E.out];rfl,by first|exact BL.out.drew|exact BL.out⟩
   have E:=yH (NE.out he);clear he NE EQ;go_wp2
   go_region
   all_goals
    go_wp2;go_ret;exact⟨by rw[E.out];rfl,by first|exact BL.out.drew|exact BL.out⟩
  have E:=yH (show decide (la=lb)=true by
   have h1:=ht.out;rw[List.take_of_length_le (by omega),List.take_of_length_le (by have:=L.out;omega)]at h1;rw[decide_eq_true_eq];exact h1)
  go_wp2;go_ret;exact⟨by rw[E.out];rfl,BL.out⟩
 have E:=yH (show decide (la=lb)=false by rw[decide_eq_false_iff_not];rintro rfl;exact hlen rfl);have q:((la.length:Int)==(lb.length:Int))=false:=by simp;omega
 clear hlen;go_enter Tryz.func52,Tryz.ntmps52;go_wp2;go_ret;exact⟨by rw[E.out];rfl,yZ⟩
theorem aCm{P:Program}(w:World)(t e:TypeId)(sz:Nat)(ht:P.underlying t=some (.slice e))(hs:(sizeOf e).run P w=.ok sz w)(b n cap:Nat)(h:n≤cap):
  (Instr.sliceAt t (.slice (some ⟨b,0,none⟩) n cap) none (some (.int .i64 n)) (some (.int .i64 n))).run P w=.ok (.slice (some ⟨b,0,none⟩) n n) w:=by
 have he:P.elem t=e:=by simp[Program.elem,ht]
 simp[Instr.sliceAt,Instr.slice,run_underlying ht,Instr.sliceBounds,run_sliceBound,hs,h,Result.andThen,Addr.add]
theorem aBr{P:Program}(w:World)(t e:TypeId)(sz:Nat)(ht:P.underlying t=some (.slice e))(hs:(sizeOf e).run P w=.ok sz w):
  (Instr.sliceAt t (.slice none 0 0) none (some (.int .i64 0)) (some (.int .i64 0))).run P w=.ok (.slice none 0 0) w:=by
 simp[Instr.sliceAt,Instr.slice,run_underlying ht,Instr.sliceBounds,run_sliceBound,hs,Result.andThen,Addr.add]
def aC8(w:World)(base:Nat)(e:TypeId)(size:Nat)(v:Value)(n:Nat)(xs:List Value):Prop:=
 xs.length=n*size∧((v=.slice none 0 0∧n=0)∨∃g cur,v=.slice (some ⟨g,0,none⟩) n n∧base≤g∧w.heap[g]? = some (.cells cur e (0,0))∧n≤maxLen∧n*size≤cur.size∧cur.toList.take (n*size)=xs)
theorem aC8.keep{S:Nat→Prop}{w w':World}{base:Nat}{e:TypeId}{size:Nat}{v:Value}{n:Nat}{xs:List Value}(h:aC8 w base e size v n xs)(k:Keep S w w')(hs:∀b,v.ownBlock=some b→¬S b):aC8 w' base e size v n xs:=by
 obtain⟨h1,h2⟩:=h;refine⟨h1,?_⟩;rcases h2 with h2|⟨g,cur,rfl,hb,hg,hr⟩
 ·exact .inl h2
 refine .inr ⟨g,cur,rfl,hb,?_,hr⟩;rw[k.block g (lt_of_block hg) (hs g rfl)];exact hg
theorem aC8.below{w w':World}{base:Nat}{e:TypeId}{size:Nat}{v:Value}{n:Nat}{xs:List Value}(h:aC8 w base e size v n xs)(k:Below w.heap.size w w'):aC8 w' base e size v n xs:=
 h.keep (pAE (S:=fun _=>False) k) (fun _ _=>id)
theorem aC8.base{w:World}{base b':Nat}{e:TypeId}{size:Nat}{v:Value}{n:Nat}{xs:List Value}(h:aC8 w base e size v n xs)(hb:b'≤base):aC8 w b' e size v n xs:=by
 obtain⟨h1,h2⟩:=h;refine⟨h1,?_⟩;rcases h2 with h2|⟨g,cur,hv,hg,hr⟩
 ·exact .inl h2
 exact .inr ⟨g,cur,hv,Nat.le_trans hb hg,hr⟩
theorem aC8.type{w:World}{base:Nat}{e:TypeId}{size:Nat}{v:Value}{n:Nat}{xs:List Value}(h:aC8 w base e size v n xs){b:Nat}(hb:v.ownBlock=some b):base≤b∧b<w.heap.size∧∃cur,w.heap[b]? = some (.cells cur e (0,0)):=by
 obtain⟨_,h2⟩:=h;rcases h2 with⟨rfl,_⟩|⟨g,cur,rfl,hge,hg,_⟩
 ·cases hb
 cases hb;exact⟨hge,lt_of_block hg,cur,hg⟩
theorem aC8.reads{w:World}{base:Nat}{e:TypeId}{size:Nat}{v:Value}{n:Nat}{xs:List Value}(h:aC8 w base e size v n xs)(hn:n≤100000000):aDb w v size n xs:=by
 obtain⟨h1,h2⟩:=h;rcases h2 with⟨rfl,rfl⟩|⟨g,cur,rfl,_,hg,_,hc,ht⟩
 ·exact⟨none,0,rfl,by omega,h1,fun h=>by omega⟩
 refine⟨_,n,rfl,hn,h1,fun hp=>⟨g,0,rfl,lt_of_block hg,fun j hj=>?_⟩⟩;rw[Nat.zero_add];show w.cell? ⟨g,j,none⟩=_;simp only[World.cell?,hg,Option.isSome_none,Bool.false_eq_true,if_false];rw[←ht,List.getElem?_take_of_lt hj,Array.getElem?_toList]
def aG3(w:World)(base:Nat)(e:TypeId)(size n:Nat)(v:Value)(xs:List Value)(en:Ending)(w':World):Prop:=
 ∃v',en=.returned v'∧aC8 w' base e size v' n xs∧v'.ownBlock=v.ownBlock∧w'=w
def aFu(w:World)(e:TypeId)(size n:Nat)(xs:List Value)(en:Ending)(w':World):Prop:=
 ∃v',en=.returned v'∧aC8 w' w.heap.size e size v' n xs∧Below w.heap.size w w'
theorem aDb.src{w:World}{ao:Option Addr}{size n cap:Nat}{xs:List Value}(h:aDb w (.slice ao n cap) size n xs):∀ad,ao=some ad→∀j u,xs[j]? = some u→w.cell? (ad.add j)=some u:=by
 rintro ad rfl j u hu;obtain⟨ao',cap',hv,_,hlen,h3⟩:=h
 cases hv
 have hj:j<xs.length:=by
  obtain⟨hj,_⟩:=List.getElem?_eq_some_iff.1 hu;exact hj
 have hn:0<n:=by
  rcases Nat.eq_zero_or_pos n with rfl|hn
  ·omega
  exact hn
 obtain⟨b,off,e,_,hc⟩:=h3 hn
 cases e
 rw[Go.WideShapes.add_plain,hc j (by omega)];exact hu
def Twinned(w:World)(base g:Nat)(e:TypeId)(size n:Nat)(xs marks:List Value):Prop:=w.ownsRow base e size (.slice (some ⟨g,0,none⟩) (n+2) (n+2)) (n+2) (xs++marks)
theorem Twinned.cells{w:World}{base g:Nat}{e:TypeId}{size n:Nat}{xs marks:List Value}(h:Twinned w base g e size n xs marks):g<w.heap.size∧∀j,j<(n+2)*size→w.cell? ⟨g,j,none⟩=(xs++marks)[j]? := by
 obtain⟨ao,cap,hv,_,_,_,hr⟩:=aAd h
 cases hv
 obtain⟨b,hb,_,hlt,hc,_⟩:=hr (by omega)
 cases hb
 exact⟨hlt,hc⟩
structure Fw where
 fr:Int
 tt:Int
 am:Int
deriving DecidableEq
def Fw.vals(x:Fw):List Value:=[.int .u8 x.fr,.int .u8 x.tt,.int .i64 x.am]
theorem Fw.vals_len(x:Fw):x.vals.length=3:=rfl
def aAo(ls:List Fw):List Value:=ls.flatMap Fw.vals
def Fw.val(x:Fw):Value:=.agg #[.int .u8 x.fr,.int .u8 x.tt,.int .i64 x.am]
theorem aQx(ls:List Fw):(aAo ls).length=ls.length*3:=aJ5 _ 3 Fw.vals_len ls
theorem aB9(ls:List Fw)(i j:Nat)(hj:j<3)(h:i<ls.length):(aAo ls)[i*3+j]? = ls[i].vals[j]? := by
 unfold aAo;rw[aH6 _ 3 Fw.vals_len ls i j hj,List.getElem?_eq_getElem h];rfl
theorem aL6(a b:List Fw):aAo (a++b)=aAo a++aAo b:=by unfold aAo;exact List.flatMap_append
theorem aQy(x:Fw):aAo [x]=x.vals:=by simp[aAo]
structure Fw.Fits(x:Fw):Prop where
 fr:In8 x.fr
 tt:In8 x.tt
 am:In64 x.am
theorem aKn(l:List Fw):∀u∈aAo l,u.oneCell'=true:=by
 intro u hu;unfold aAo at hu;obtain⟨x,_,hx⟩:=List.mem_flatMap.1 hu;simp[Fw.vals]at hx;rcases hx with rfl|rfl|rfl <;> rfl
theorem aNh:(Tryz.prog.info? 206).map (fun i=>(i.zero,i.size,i.bytes))=some (some (Fw.val ⟨0,0,0⟩),3,16):=by kernel_rfl
theorem aDe(w:World){ops:Array Oper}{rest:List Oper}{o:Oper}{a:Act}{Q:Exit→Act→World→Prop}(hgd:o.guard=none)(s x:Operand)
  (ho:o.op=.call { callee:=.builtin .append,args:=#[s,x],argTypes:=#[200,200] })(base:Nat)(v:Value)(ls:List Fw)(hs:a.eval s=v)
  (hown:w.ownsRow base 206 3 v ls.length (aAo ls))(g c:Nat)(y:Fw)(hx:a.eval x=.slice (some ⟨g,0,none⟩) 1 c)(hy:Blk w g #[.int .u8 y.fr,.int .u8 y.tt,.int .i64 y.am] 206)(hlen:ls.length≤100000)(hbase:base≤w.heap.size)
  (h:∀v' w',w'.ownsRow base 206 3 v' (ls++[y]).length (aAo (ls++[y]))→w.grownBy w' v.ownBlock→wpList Tryz.prog ops Q rest (a.put o.dst v') w'):wpList Tryz.prog ops Q (o::rest) a w:=by
 obtain⟨i0,hi,hz0,hz1,hz2⟩:=info_parts aNh;refine wpList_append_own w hgd s x 200 ho base 206 i0 (Fw.val ⟨0,0,0⟩) 3 16 Tryz.underlying200 hi hz0 hz1 hz2 rfl (by decide) v ls.length (aAo ls) hs hown ⟨g,0,none⟩ 1 c y.vals hx rfl ?_ ?_ (by unfold maxLen;omega) (by omega) hbase ?_
 ·intro j u hj;have:=hy.cell j;rw[Go.WideShapes.add_plain]
  match j,hj with
  | 0,hj=>simp[Fw.vals]at hj;subst hj;simpa using this
  | 1,hj=>simp[Fw.vals]at hj;subst hj;simpa using this
  | 2,hj=>simp[Fw.vals]at hj;subst hj;simpa using this
  | j+3,hj=>simp[Fw.vals]at hj
 ·intro u hu;simp[Fw.vals]at hu;rcases hu with rfl|rfl|rfl <;> rfl
 intro v' w' h1 h2 _;refine h v' w' ?_ h2;rw[aL6,aQy,List.length_append];exact h1
theorem aCw{P:Program}{w:World}(t ty e:TypeId){z:Value}{size bytes:Nat}
  (hi:(P.info? e).map (fun i=>(i.zero,i.size,i.bytes))=some (some z,size,bytes))(ht:P.underlying t=some (.slice e))(hzs:z.cells.size=size)(hsz:0<size)(hbs:bytes≤1000)
  (base:Nat)(v:Value)(n:Nat)(xs:List Value)(hown:w.ownsRow base e size v n xs)(h1:∀u∈xs,u.oneCell'=true)(hn:n≤100000):
  ∃v' w',(Builtin.append_ #[t,t] ty #[.slice none 0 0,v]).run P w=.ok v' w'∧w'.ownsRow w.heap.size e size v' n xs∧Below w.heap.size w w':=by
 obtain⟨i,hi1,hi2,hi3,hi4⟩:=info_parts hi;have h0:=World.ownsRow_nil w w.heap.size e size;obtain⟨ao,cap,rfl,c1,c2,c3,c4⟩:=aAd hown
 cases ao with
 | none=>
  have hz:n=0:=by
   rcases Nat.eq_zero_or_pos n with e|e
   ·exact e
   obtain⟨b,hb,_⟩:=c4 e;cases hb
  have hcap:cap=0:=by
   rcases hown.2 with⟨e,_⟩|⟨g,cap',cur,e,_⟩
   ·cases e;rfl
   cases e
  subst hz;subst hcap;have hxs:xs=[]:=List.eq_nil_of_length_eq_zero (by simpa using c3);subst hxs;exact⟨_,_,run_append_owned_none (P:=P) (w:=w) w.heap.size t ty e i size ht hi1 (.slice none 0 0) 0 [] h0,h0,yZ⟩
 | some ad=>
  have hcells:∀j u,xs[j]? = some u→w.cell? (ad.add j)=some u:=by
   intro j u hj;have hjl:j<xs.length:=(List.getElem?_eq_some_iff.1 hj).1
   have hp:0<n:=by
    rcases Nat.eq_zero_or_pos n with e|e
    ·subst e;rw[c3]at hjl;omega
    exact e
   obtain⟨b,hb,_,_,hc,_⟩:=c4 hp
   cases hb
   rw[Go.WideShapes.add_plain,Nat.zero_add,hc j (by omega)];exact hj
  have hbb:=Nat.mul_le_mul hn hbs;obtain⟨v',w',hr,h2,h3,_⟩:=run_append_own (P:=P) w w.heap.size t ty e i z size bytes ht hi1 hi2 hi3 hi4 hzs hsz (.slice none 0 0) 0 [] h0 ad n cap xs c3 hcells h1 (by unfold maxLen;omega) (by rw[Nat.zero_add];omega) yL;simp only[Nat.zero_add,List.nil_append]at h2;exact⟨v',w',hr,h2,(Below.refl w.heap.size w).grown h3 yL (fun k hk=>by cases hk)⟩
theorem aE6{P:Program}{w w':World}{o:Oper}{a:Act}{K:Act→World→Prop}{Q:Exit→Act→World→Prop}(x:Operand)(t:TypeId){v v':Value}
  (ho:o.op=.call { callee:=.builtin .append,args:=#[.const (.slice none 0 0),x],argTypes:=#[t,t] })(hx:a.eval x=v)
  (hr:(Builtin.append_ #[t,t] o.type #[.slice none 0 0,v]).run P w=.ok v' w')(h:K (a.put o.dst v') w'):o.wp P a w K Q:=by
 have hc:a.eval (.const (.slice none 0 0))=.slice none 0 0:=rfl;unfold Oper.wp execOp;simp only[ho,resolve,invoke,builtin,Sem.run_bind,Sem.run_pure,Result.andThen_ok,List.map_toArray,List.map_cons,List.map_nil,hc,hx,hr];exact h
theorem aIa{ops:Array Oper}{D:Nat→Bool}(hC:aDa ops D){j k:Nat}(hj:D j=false){o:Oper}(ho:ops[k]? = some o)(he:∃e∈o.after,Region.binds .any e=true∧e.on=j):D k=false:=by
 obtain⟨e,he,hb,hon⟩:=he
 by_cases h:D k=true
 ·have:=hC k o ho h e he hb;rw[hon,hj]at this;cases this
 simpa using h
def hitE(a b:Int)(x:Fw):Bool:=x.fr==a && x.tt==b
def capE(es:List Fw)(a b:Int):Int:=match es.find? (hitE a b)with|some x=>x.am|none=>0
theorem capE_at{es:List Fw}{a b:Int}{k:Nat}(hk:k<es.length)(hn:∀x∈es.take k,hitE a b x=false)(hx:hitE a b es[k]=true):capE es a b=es[k].am:=by
 unfold capE
 rw[List.find?_eq_some_iff_getElem.2 ⟨hx,k,hk,rfl,fun j hj=>by
  have:=hn es[j] (by rw[List.mem_take_iff_getElem];exact⟨j,by omega,rfl⟩);simp[this]⟩]
theorem aOx{es:List Fw}{a b:Int}(hn:∀x∈es,hitE a b x=false):capE es a b=0:=by
 unfold capE;rw[List.find?_eq_none.2 (fun x hx=>by simp[hn x hx])]
theorem aL7{q:Fw→Prop}{l:List Fw}{k:Nat}(h:k<l.length)(hn:∀x∈l.take k,q x)(hx:q l[k]):∀x∈l.take (k+1),q x:=by
 rw[List.take_succ_eq_append_getElem h];intro x hx';rcases List.mem_append.1 hx' with h1|h1
 ·exact hn x h1
 rw[List.mem_singleton]at h1;rw[h1];exact hx
theorem fw_cells{w:World}{b:Nat}{ls:List Fw}(h:∀j,j<ls.length*3→w.cell? ⟨b,j,none⟩=(aAo ls)[j]?){k:Nat}(hk:k<ls.length):
  w.cell? ⟨b,k*3,none⟩=some (.int .u8 ls[k].fr)∧w.cell? ⟨b,k*3+1,none⟩=some (.int .u8 ls[k].tt)∧w.cell? ⟨b,k*3+2,none⟩=some (.int .i64 ls[k].am):=by
 refine⟨?_,?_,?_⟩
 ·exact(h (k*3+0) (by omega)).trans (aB9 ls k 0 (by omega) hk)
 ·exact(h (k*3+1) (by omega)).trans (aB9 ls k 1 (by omega) hk)
 exact(h (k*3+2) (by omega)).trans (aB9 ls k 2 (by omega) hk)
def aJm(f:Int→Int→Int)(m:Nat):Fw:=⟨((m/16:Nat):Int)+1,((m%16:Nat):Int)+1,f (((m/16:Nat):Int)+1) (((m%16:Nat):Int)+1)⟩
def aGb(f:Int→Int→Int)(m:Nat):List Fw:=((List.range m).map (aJm f)).filter fun x=>decide (0<x.am)
def allE(f:Int→Int→Int):List Fw:=aGb f 256
theorem aG4(f:Int→Int→Int)(m:Nat):aGb f (m+1)=aGb f m++(if 0<(aJm f m).am then [aJm f m]else []):=by
 unfold aGb;rw[List.range_succ,List.map_append,List.filter_append];congr 1;simp only[List.map_cons,List.map_nil,List.filter_cons,List.filter_nil,decide_eq_true_eq]
theorem aQz(f:Int→Int→Int){p q:Nat}(hq:q<16):aJm f (p*16+q)=⟨(p:Int)+1,(q:Int)+1,f ((p:Int)+1) ((q:Int)+1)⟩:=by
 unfold aJm;rw[show(p*16+q)/16=p by omega,show(p*16+q)%16=q by omega]
theorem aIb(f:Int→Int→Int)(m:Nat):(aGb f m).length≤m:=by
 unfold aGb;exact Nat.le_trans (List.length_filter_le _ _) (by simp)
def capF(es:List Fw)(a b n:Int)(p q:Int):Int:=if p=a∧q=b then n else capE es p q
def setE(es:List Fw)(a b n:Int):List Fw:=allE (capF es a b n)
structure RefG(w:World)(base g:Nat)(es:List Fw)(vl:Value):Prop where
 blk:Blk w g #[vl] 245
 ge:base≤g
 row:w.ownsRow base 206 3 vl es.length (aAo es)
theorem RefG.keep{S:Nat→Prop}{w w':World}{base g:Nat}{es:List Fw}{vl:Value}(h:RefG w base g es vl)(k:Keep S w w')(h1:¬S g)(h2:∀b,vl.ownBlock=some b→¬S b):RefG w' base g es vl:=⟨h.blk.keep k h1,h.ge,aAm h.row k h2⟩
theorem RefG.below{w w':World}{base g:Nat}{es:List Fw}{vl:Value}(h:RefG w base g es vl)(k:Below w.heap.size w w'):RefG w' base g es vl:=h.keep (pAE (S:=fun _=>False) k) id (fun _ _=>id)
theorem aIz{P:Program}{ops:Array Oper}{rest:List Oper}{w w':World}{o:Oper}{a:Act}{Q:Exit→Act→World→Prop}(hgd:o.guard=none)(y x:Operand)(t:TypeId){u v v':Value}
  (ho:o.op=.call { callee:=.builtin .append,args:=#[y,x],argTypes:=#[t,t] })(hy:a.eval y=u)(hx:a.eval x=v)
  (hr:(Builtin.append_ #[t,t] o.type #[u,v]).run P w=.ok v' w')(h:wpList P ops Q rest (a.put o.dst v') w'):wpList P ops Q (o::rest) a w:=
 wpList_plain hgd fun K hK=>by
  unfold Oper.wp execOp;simp only[ho,resolve,invoke,builtin,Sem.run_bind,Sem.run_pure,Result.andThen_ok,List.map_toArray,List.map_cons,List.map_nil,hy,hx,hr];exact hK _ _ h
theorem aIc{w:World}{base g:Nat}{es:List Fw}{vl:Value}(h:RefG w base g es vl)(a b:Int):
  Calls Tryz.prog 185 #[.pointer (some ⟨g,0,none⟩),.int .u8 a,.int .u8 b] w (yV w (.int .i64 (capE es a b))):=by
 obtain⟨ao,cap,rfl,hc1,hc2,hc3,hc4⟩:=aAd h.row;have HC:=yH hc4;have hg:=h.blk.lt;have dg:=h.blk.cell 0;simp at dg;unfold maxLen at hc2;clear hc3 hc4 h;go_enter Tryz.func185,Tryz.ntmps185;go_wp2_with fail
 go_loopw [7] (fun i wr=>∃k:Nat,k≤es.length∧i=.int .i64 k∧Hid (∀x∈es.take k,hitE a b x=false)∧wr=w) (fun i _=>es.length - (intOf i).toNat)
 case atStart=>exact⟨0,Nat.zero_le _,rfl,yH (by simp),rfl⟩
 obtain⟨k,hk,rfl,hn,rfl⟩:=hrel
 by_cases hkl:k<es.length
 ·obtain⟨bl,rfl,hb1,hb2,hcell,_⟩:=HC.out (by omega);obtain⟨e0,e1,e2⟩:=fw_cells hcell hkl;have FA:=yH (fun hx=>capE_at (a:=a) (b:=b) hkl hn.out hx);have TN:=yH (fun hx=>aL7 (q:=fun x=>hitE a b x=false) hkl hn.out hx);clear hcell hn;generalize es[k]=x at *
  by_cases ha:(x.fr==a)=true
  ·by_cases hb:(x.tt==b)=true
   ·have E:=yH (FA.out (by unfold hitE;rw[ha,hb];rfl));clear FA TN;go_wp2_with fail;go_ret;exact⟨by rw[E.out];rfl,rfl⟩
   have hb:(x.tt==b)=false:=by simpa using hb
   have E:=yH (TN.out (by unfold hitE;rw[hb];simp));clear FA TN;go_wp2_with fail;go_roundw
   case rel=>exact⟨k+1,by omega,by go_num,E,by first|rfl|trivial⟩
   case measure=>simp[intOf];omega
  have ha:(x.fr==a)=false:=by simpa using ha
  have E:=yH (TN.out (by unfold hitE;rw[ha];simp));clear FA TN;go_wp2_with fail;go_roundw
  case rel=>exact⟨k+1,by omega,by go_num,E,by first|rfl|trivial⟩
  case measure=>simp[intOf];omega
 have E:Hid (capE es a b=0):=yH (aOx (by have:=hn.out;rwa [List.take_of_length_le (by omega)]at this));clear hn;go_wp2_with fail;go_ret;exact⟨by rw[E.out];rfl,rfl⟩
def SetGAt(w:World)(es:List Fw)(a b n:Int)(v i:Value)(wr:World):Prop:=
 ∃(p:Nat) (P:Int),Hid (P=(p:Int)+1)∧1≤P∧P≤17∧i=.int .u8 P∧wr.ownsRow w.heap.size 206 3 v (aGb (capF es a b n) (p*16)).length (aAo (aGb (capF es a b n) (p*16)))∧Below w.heap.size w wr
def SetGIn(w:World)(es:List Fw)(a b n:Int)(p:Nat)(v i:Value)(wr:World):Prop:=
 ∃(q:Nat) (Q:Int),Hid (Q=(q:Int)+1)∧1≤Q∧Q≤17∧i=.int .u8 Q∧wr.ownsRow w.heap.size 206 3 v (aGb (capF es a b n) (p*16+q)).length (aAo (aGb (capF es a b n) (p*16+q)))∧Below w.heap.size w wr
theorem aMj{w:World}{base g:Nat}{es:List Fw}{vl:Value}(h:RefG w base g es vl)(a b n:Int):
  Calls Tryz.prog 216 #[.pointer (some ⟨g,0,none⟩),.int .u8 a,.int .u8 b,.int .i64 n] w fun e w'=>e=.returned (.tuple #[])∧∃vl',RefG w' base g (setE es a b n) vl'∧Keep (·=g) w w'∧∀b,vl'.ownBlock=some b→w.heap.size≤b:=by
 have H:=yH h;have hg:=h.blk.lt;clear h;go_enter Tryz.func216,Tryz.ntmps216;go_wp2_with fail
 go_loopw [8,9] (SetGAt w es a b n) (fun _ i _=>17 - (intOf i).toNat)
 case atStart=>exact⟨0,1,yH rfl,by omega,by omega,rfl,World.ownsRow_nil _ _ _ _,yZ⟩
 obtain⟨p,P,hP,hP1,hP2,rfl,hown,hb⟩:=hrel;have dg:=(H.out.blk.below hb hg).cell 0;simp at dg;have hgr:=(H.out.blk.below hb hg).lt
 by_cases hpl:p<16
 ·have g0:decide (P≤16)=true:=by have:=hP.out;simp;omega
  have hP3:P≤16:=by have:=hP.out;omega
  have O3:=yH hown;have B3:=yH hb;clear hown hb dg hgr;go_wp2_with fail
  go_loopw [8,10] (SetGIn w es a b n p) (fun _ i _=>17 - (intOf i).toNat)
  case atStart=>exact⟨0,1,yH rfl,by omega,by omega,rfl,O3.out,B3.out⟩
  obtain⟨q,Q,hQ,hQ1,hQ2,rfl,hown,hb⟩:=hrel;have dg:=(H.out.blk.below hb hg).cell 0;simp at dg;have hgr:=(H.out.blk.below hb hg).lt
  by_cases hql:q<16
  ·have NX:=yH (aG4 (capF es a b n) (p*16+q));rw[aQz _ hql,←hP.out,←hQ.out]at NX;have hlo:=aIb (capF es a b n) (p*16+q);have g1:decide (Q≤16)=true:=by have:=hQ.out;simp;omega
   have hQ3:Q≤16:=by have:=hQ.out;omega
   have C:=yH (aIc (H.out.below hb) P Q);generalize aGb (capF es a b n) (p*16+q)=out at *;obtain⟨y,hy⟩:∃y,Hid (capE es P Q=y):=⟨_,yH rfl⟩;rw[hy.out]at C;have hl2:out.length≤100000:=by omega
   have A0:=(Below.refl wr.heap.size wr).alloc yL (.cells #[.int .u8 P,.int .u8 Q,.int .i64 y] 206);have K0:=pAA wr #[.int .u8 P,.int .u8 Q,.int .i64 y] 206;have hwy:w.heap.size≤wr.heap.size:=hb.size;have rowlt:∀k,Value.ownBlock _=some k→k<wr.heap.size:=fun k hk=>(aAe hown hk).2.1
   go_wp2_with fail;refine C.out.mono ?_;rintro e wr ⟨rfl,rfl⟩
   by_cases ha:P=a
   ·subst ha
    by_cases hb2:Q=b
    ·subst hb2;have hz:capF es P Q n P Q=n:=by unfold capF;rw[if_pos ⟨rfl,rfl⟩]
     rw[hz]at NX;have kk:=(Keep.refl (·=wr.heap.size) (wr.alloc (.cells #[.int .u8 P,.int .u8 Q,.int .i64 y] 206))).setCell (p:=⟨wr.heap.size,2,none⟩) (.inl rfl) (.int .i64 n);have KY:=yH (K0.set 2 (.int .i64 n));simp only[yF,yD,yE]at KY;have OY:=yH (aAm (hown.alloc (.cells #[.int .u8 P,.int .u8 Q,.int .i64 y] 206)) kk (fun b hb e=>by have:=rowlt b hb;omega));have BY:=yH ((hb.trans (A0.mono hb.size)).trans (kk.below (hb.trans (A0.mono hb.size)).size (fun b hb e=>by omega)));have z0:wr.heap.size+1≤((wr.alloc (.cells #[.int .u8 P,.int .u8 Q,.int .i64 y] 206)).setCell ⟨wr.heap.size,2,none⟩ (.int .i64 n)).heap.size:=by simp
     clear hown hb A0 K0 kk hz rowlt C;generalize hW:(wr.alloc (.cells #[.int .u8 P,.int .u8 Q,.int .i64 y] 206)).setCell ⟨wr.heap.size,2,none⟩ (.int .i64 n)=Wy at *;have kl:=KY.out.lt;have y0:=KY.out.cell 0;have y1:=KY.out.cell 1;have y2:=KY.out.cell 2;simp at y0 y1 y2
     by_cases hp:0<n
     ·have q3:decide (0<n)=true:=by simpa using hp
      rw[if_pos hp]at NX;clear hp;go_wp2_with (at_builtin;refine aDe _ rfl (.tmp 40) (.tmp 42) rfl w.heap.size _ out rfl (OY.out.alloc _) _ _ (⟨P,Q,n⟩:Fw) rfl (pAA _ _ _) hl2 (by simp;omega) ?_);intro v3 w3 hown3 hgr3;have R2:∀k,Value.ownBlock _=some k→w.heap.size≤k:=fun k hk=>(aAe OY.out hk).1
      have B3:=yH ((BY.out.alloc BY.out.size _).grown hgr3 (by simp;have:=BY.out.size;omega) (fun k hk=>R2 k hk));have O3:=yH (show w3.ownsRow w.heap.size 206 3 v3 (out++[(⟨P,Q,n⟩:Fw)]).length (aAo (out++[(⟨P,Q,n⟩:Fw)])) by simpa using hown3);clear R2 hown3 hgr3;go_wp2_with fail;go_roundw
      case rel=>exact⟨q+1,Q+1,yH (by have:=hQ.out;omega),by omega,by omega,by go_num,by rw[show p*16+(q+1)=p*16+q+1 by omega,NX.out];exact O3.out,B3.out⟩
      case measure=>simp[intOf];omega
     have q3:decide (0<n)=false:=by simpa using hp
     rw[if_neg hp,List.append_nil]at NX;clear hp;go_wp2_with fail;go_roundw
     case rel=>exact⟨q+1,Q+1,yH (by have:=hQ.out;omega),by omega,by omega,by go_num,by rw[show p*16+(q+1)=p*16+q+1 by omega,NX.out];exact OY.out,BY.out⟩
     case measure=>simp[intOf];omega
    have hb2:(Q==b)=false:=by simpa using hb2
    have hz:capF es P b n P Q=y:=by unfold capF;rw[if_neg (fun h=>by simp[h.2]at hb2),hy.out]
    rw[hz]at NX;have KY:=yH K0;have OY:=yH (hown.alloc (.cells #[.int .u8 P,.int .u8 Q,.int .i64 y] 206));have BY:=yH (hb.trans (A0.mono hb.size));have z0:wr.heap.size+1≤(wr.alloc (.cells #[.int .u8 P,.int .u8 Q,.int .i64 y] 206)).heap.size:=by simp
    clear hown hb A0 K0 hz rowlt C;generalize hW:(wr.alloc (.cells #[.int .u8 P,.int .u8 Q,.int .i64 y] 206))=Wy at *;have kl:=KY.out.lt;have y0:=KY.out.cell 0;have y1:=KY.out.cell 1;have y2:=KY.out.cell 2;simp at y0 y1 y2
    by_cases hp:0<y
    ·have q3:decide (0<y)=true:=by simpa using hp
     rw[if_pos hp]at NX;clear hp;go_wp2_with (at_builtin;refine aDe _ rfl (.tmp 40) (.tmp 42) rfl w.heap.size _ out rfl (OY.out.alloc _) _ _ (⟨P,Q,y⟩:Fw) rfl (pAA _ _ _) hl2 (by simp;omega) ?_);intro v3 w3 hown3 hgr3;have R2:∀k,Value.ownBlock _=some k→w.heap.size≤k:=fun k hk=>(aAe OY.out hk).1
     have B3:=yH ((BY.out.alloc BY.out.size _).grown hgr3 (by simp;have:=BY.out.size;omega) (fun k hk=>R2 k hk));have O3:=yH (show w3.ownsRow w.heap.size 206 3 v3 (out++[(⟨P,Q,y⟩:Fw)]).length (aAo (out++[(⟨P,Q,y⟩:Fw)])) by simpa using hown3);clear R2 hown3 hgr3;go_wp2_with fail;go_roundw
     case rel=>exact⟨q+1,Q+1,yH (by have:=hQ.out;omega),by omega,by omega,by go_num,by rw[show p*16+(q+1)=p*16+q+1 by omega,NX.out];exact O3.out,B3.out⟩
     case measure=>simp[intOf];omega
    have q3:decide (0<y)=false:=by simpa using hp
    rw[if_neg hp,List.append_nil]at NX;clear hp;go_wp2_with fail;go_roundw
    case rel=>exact⟨q+1,Q+1,yH (by have:=hQ.out;omega),by omega,by omega,by go_num,by rw[show p*16+(q+1)=p*16+q+1 by omega,NX.out];exact OY.out,BY.out⟩
    case measure=>simp[intOf];omega
   have ha:(P==a)=false:=by simpa using ha
   have hz:capF es a b n P Q=y:=by unfold capF;rw[if_neg (fun h=>by simp[h.1]at ha),hy.out]
   rw[hz]at NX;have KY:=yH K0;have OY:=yH (hown.alloc (.cells #[.int .u8 P,.int .u8 Q,.int .i64 y] 206));have BY:=yH (hb.trans (A0.mono hb.size));have z0:wr.heap.size+1≤(wr.alloc (.cells #[.int .u8 P,.int .u8 Q,.int .i64 y] 206)).heap.size:=by simp
   clear hown hb A0 K0 hz rowlt C;generalize hW:(wr.alloc (.cells #[.int .u8 P,.int .u8 Q,.int .i64 y] 206))=Wy at *;have kl:=KY.out.lt;have y0:=KY.out.cell 0;have y1:=KY.out.cell 1;have y2:=KY.out.cell 2;simp at y0 y1 y2
   by_cases hp:0<y
   ·have q3:decide (0<y)=true:=by simpa using hp
    rw[if_pos hp]at NX;clear hp;go_wp2_with (at_builtin;refine aDe _ rfl (.tmp 40) (.tmp 42) rfl w.heap.size _ out rfl (OY.out.alloc _) _ _ (⟨P,Q,y⟩:Fw) rfl (pAA _ _ _) hl2 (by simp;omega) ?_);intro v3 w3 hown3 hgr3;have R2:∀k,Value.ownBlock _=some k→w.heap.size≤k:=fun k hk=>(aAe OY.out hk).1
    have B3:=yH ((BY.out.alloc BY.out.size _).grown hgr3 (by simp;have:=BY.out.size;omega) (fun k hk=>R2 k hk));have O3:=yH (show w3.ownsRow w.heap.size 206 3 v3 (out++[(⟨P,Q,y⟩:Fw)]).length (aAo (out++[(⟨P,Q,y⟩:Fw)])) by simpa using hown3);clear R2 hown3 hgr3;go_wp2_with fail;go_roundw
    case rel=>exact⟨q+1,Q+1,yH (by have:=hQ.out;omega),by omega,by omega,by go_num,by rw[show p*16+(q+1)=p*16+q+1 by omega,NX.out];exact O3.out,B3.out⟩
    case measure=>simp[intOf];omega
   have q3:decide (0<y)=false:=by simpa using hp
   rw[if_neg hp,List.append_nil]at NX;clear hp;go_wp2_with fail;go_roundw
   case rel=>exact⟨q+1,Q+1,yH (by have:=hQ.out;omega),by omega,by omega,by go_num,by rw[show p*16+(q+1)=p*16+q+1 by omega,NX.out];exact OY.out,BY.out⟩
   case measure=>simp[intOf];omega
  have hq:q=16:=by have:=hQ.out;omega
  subst hq;have g1:decide (Q≤16)=false:=by have:=hQ.out;simp;omega
  have hQ3:¬Q≤16:=by have:=hQ.out;omega
  have O4:=yH hown;have B4:=yH hb;clear hown hb;go_wp2_with fail;go_roundw
  case rel=>exact⟨p+1,P+1,yH (by have:=hP.out;omega),by omega,by omega,by go_num,by rw[show(p+1)*16=p*16+16 by omega];exact O4.out,B4.out⟩
  case measure=>simp[intOf];omega
 have hp:p=16:=by have:=hP.out;omega
 subst hp;have g0:decide (P≤16)=false:=by have:=hP.out;simp;omega
 have hP3:¬P≤16:=by have:=hP.out;omega
 have O0:=yH (show wr.ownsRow w.heap.size 206 3 _ (setE es a b n).length (aAo (setE es a b n))from hown);have B0:=yH hb;have HBk:=yH (H.out.blk.below hb hg);have hf:=HBk.out.frozen;obtain⟨ao3,cap3,hv3,_⟩:=aAd O0.out;subst hv3;clear hown hb;go_wp2_with fail;go_end0;have kk:Keep (·=g) wr (wr.setCell ⟨g,0,none⟩ (.slice ao3 (setE es a b n).length cap3)):=Keep.setCell (S:=(·=g)) (Keep.refl _ _) (p:=⟨g,0,none⟩) (.inl rfl) _;refine⟨rfl,.slice ao3 (setE es a b n).length cap3,⟨?_,H.out.ge,?_⟩,(pAE B0.out).trans kk,fun b hb=>(aAe O0.out hb).1⟩
 ·have:=HBk.out.set 0 (.slice ao3 (setE es a b n).length cap3);simpa using this
 exact aAm (aBd O0.out (by have:=H.out.ge;omega)) kk (aAl O0.out HBk.out (by decide))
def aGg(es:List Fw)(a b n:Int):Int:=if n<1 then 1 else if capE es a b<n then 11 else 0
def aHh(es:List Fw)(a b n:Int):List Fw:=if aGg es a b n=0 then setE (setE es a b (capE es a b - n)) b a (capE es b a+n)else es
def CapB(es:List Fw)(B:Int):Prop:=∀x∈es,0<x.am∧x.am≤B
theorem capE_bd{es:List Fw}{B:Int}(h:CapB es B)(h0:0≤B)(a b:Int):0≤capE es a b∧capE es a b≤B:=by
 unfold capE
 cases hf:es.find? (hitE a b)with
 | none=>exact⟨Int.le_refl _,h0⟩
 | some x=>have:=h x (List.mem_of_find?_eq_some hf);exact⟨by show 0≤x.am;omega,this.2⟩
def PushGPostF(base g:Nat)(es:List Fw)(vl:Value)(a b n:Int)(w:World)(e:Ending)(w':World):Prop:=
 e=.returned (.int .i64 (aGg es a b n))∧∃vl',RefG w' base g (aHh es a b n) vl'∧Keep (·=g) w w'∧(vl'=vl∨∀b,vl'.ownBlock=some b→w.heap.size≤b)
theorem aOy{w:World}{base g:Nat}{es:List Fw}{vl:Value}{B:Int}(h:RefG w base g es vl)(hB:CapB es B)(h0:0≤B)(hB2:B≤4611686018427387903)(a b n:Int):
  Calls Tryz.prog 186 #[.pointer (some ⟨g,0,none⟩),.int .u8 a,.int .u8 b,.int .i64 n] w (PushGPostF base g es vl a b n w):=by
 have H:=yH h;clear h
 by_cases h1:n<1
 ·have q1:decide (n<1)=true:=by simp[h1]
  have E:Hid (aGg es a b n=1∧aHh es a b n=es):=yH (by unfold aHh aGg;simp[h1]);go_enter Tryz.func186,Tryz.ntmps186;go_wp2_with fail;go_ret;exact⟨by rw[E.out.1];rfl,vl,by rw[E.out.2];exact H.out,Keep.refl _ _,.inl rfl⟩
 have q1:decide (n<1)=false:=by simp;omega
 have hbd:=capE_bd hB h0 a b;have hbd2:=capE_bd hB h0 b a;have C:=yH (aIc H.out a b)
 by_cases h2:capE es a b<n
 ·have E:Hid (aGg es a b n=11∧aHh es a b n=es):=yH (by unfold aHh aGg;simp[h1,h2]);generalize capE es a b=m at *;have q2:decide (m<n)=true:=by simp[h2]
  go_enter Tryz.func186,Tryz.ntmps186;go_wp2_with fail;refine C.out.mono ?_;rintro e w ⟨rfl,rfl⟩;go_wp2_with fail;go_ret;exact⟨by rw[E.out.1];rfl,vl,by rw[E.out.2];exact H.out,Keep.refl _ _,.inl rfl⟩
 have E:Hid (aGg es a b n=0∧aHh es a b n=setE (setE es a b (capE es a b - n)) b a (capE es b a+n)):=yH (by unfold aHh aGg;simp[h1,h2]);have C2:=yH (aIc H.out b a);have C3:=yH (aMj H.out a b (capE es a b - n));generalize hm:capE es a b=m at *;generalize hk:capE es b a=k at *;clear hm hk;have q2:decide (m<n)=false:=by simp;omega
 go_enter Tryz.func186,Tryz.ntmps186;go_wp2_with fail;refine C.out.mono ?_;rintro e w ⟨rfl,rfl⟩;go_wp2_with fail;refine C2.out.mono ?_;rintro e w ⟨rfl,rfl⟩;go_wp2_with fail;refine C.out.mono ?_;rintro e w ⟨rfl,rfl⟩;go_wp2_with fail;refine C3.out.mono ?_;rintro e w3 ⟨rfl,vl3,hr3,k3,_⟩;have R3:=yH hr3;have K3:=yH k3;clear hr3 k3 C C2 C3;have C4:=yH (aMj R3.out b a (k+n));go_wp2_with fail;refine C4.out.mono ?_;rintro e w4 ⟨rfl,vl4,hr4,k4,n4⟩;have R4:=yH hr4;have K4:=yH (K3.out.trans k4);have N4:=yH (show ∀b,vl4.ownBlock=some b→_≤b from fun b hb=>Nat.le_trans K3.out.size (n4 b hb));clear hr4 k4 n4 C4 R3 K3;go_wp2_with fail;go_ret;exact⟨by rw[E.out.1];rfl,vl4,by rw[E.out.2];exact R4.out,K4.out,.inr N4.out⟩
def CopyGPost(base:Nat)(es:List Fw)(w:World)(e:Ending)(w':World):Prop:=
 ∃g' vl',e=.returned (.pointer (some ⟨g',0,none⟩))∧RefG w' base g' es vl'∧w.heap.size≤g'∧(∀b,vl'.ownBlock=some b→w.heap.size≤b)∧Below w.heap.size w w'
theorem rcopyG_any{w:World}{base g:Nat}{es:List Fw}{vl:Value}(h:RefG w base g es vl)(hl:es.length≤1000):
  Calls Tryz.prog 183 #[.pointer (some ⟨g,0,none⟩)] w (CopyGPost base es w):=by
 obtain⟨v',w2,hrun,how,hbel⟩:=aCw (P:=Tryz.prog) (w:=w) 200 200 206 aNh Tryz.underlying200 rfl (by decide) (by decide) base _ _ _ h.row (aKn es) (by omega);have dg:=h.blk.cell 0;simp at dg;have hg:=h.blk.lt;have hge:=h.ge;have HR:=yH hrun;have HO:=yH how;have HB:=yH hbel;clear h hrun how hbel;go_enter Tryz.func183,Tryz.ntmps183;obtain⟨ao,cap,hv,_⟩:=aAd HO.out;subst hv;go_wp2_with (at_builtin;refine aIz rfl (.const (.slice none 0 0)) (.tmp 6) 200 rfl rfl rfl HR.out ?_);go_ret;have bw:=(Below.refl w2.heap.size w2).alloc yL (.cells #[.slice ao es.length cap] 245);exact⟨w2.heap.size,_,rfl,⟨pAA _ _ _,by have:=HB.out.size;omega,aBd (aAc HO.out bw) (by omega)⟩,HB.out.size,fun b hb=>(aAe HO.out hb).1,HB.out.trans (bw.mono HB.out.size)⟩
end Go.Proofs.YtojbmnbphdcjfaaGreat
