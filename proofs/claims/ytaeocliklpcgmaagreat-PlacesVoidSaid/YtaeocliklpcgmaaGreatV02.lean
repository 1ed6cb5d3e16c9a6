/- Pieces of one proof. -/
import Derived.Test.YtaeocliklpcgmaaGreatV01
import Derived.Laws.Tables
import Derived.Laws.CopyOwn
import Derived.OwnWalk
import Derived.BigQuiet
import Derived.Laws.AppendOwnNone
set_option linter.all false
set_option maxHeartbeats 64000000
set_option maxRecDepth 100000
namespace Go.Proofs.YtaeocliklpcgmaaGreat
open Go.RowKit
structure Keep(S:Nat→Prop)(w w':World):Prop where
 os:w'.os=w.os
 tape:w'.tape=w.tape
 output:w'.output=w.output
 size:w.heap.size≤w'.heap.size
 block:∀k,k<w.heap.size→¬S k→w'.heap[k]? = w.heap[k]?
theorem Keep.refl(S:Nat→Prop)(w:World):Keep S w w:=⟨rfl,rfl,rfl,Nat.le_refl _,fun _ _ _=>rfl⟩
theorem Keep.trans{S:Nat→Prop}{a b c:World}(h:Keep S a b)(k:Keep S b c):Keep S a c:=
 ⟨k.os.trans h.os,k.tape.trans h.tape,k.output.trans h.output,Nat.le_trans h.size k.size,fun i hi hs=>(k.block i (yM hi h.size) hs).trans (h.block i hi hs)⟩
theorem Keep.mono{S S':Nat→Prop}{w w':World}(h:Keep S w w')(hS:∀k,k<w.heap.size→S k→S' k):Keep S' w w':=
 ⟨h.os,h.tape,h.output,h.size,fun i hi hs=>h.block i hi fun hk=>hs (hS i hi hk)⟩
theorem pAE{S:Nat→Prop}{w w':World}(h:Below w.heap.size w w'):Keep S w w':=⟨h.os,h.tape,h.output,h.size,fun i hi _=>h.block i hi⟩
theorem Keep.below{S:Nat→Prop}{w w':World}{B:Nat}(h:Keep S w w')(hB:B≤w.heap.size)(hS:∀k,k<B→¬S k):Below B w w':=
 ⟨h.os,h.tape,h.output,h.size,fun i hi=>h.block i (yM hi hB) (hS i hi)⟩
theorem Keep.cell{S:Nat→Prop}{w w':World}(h:Keep S w w'){p:Addr}(hp:p.block<w.heap.size)(hs:¬S p.block):w'.cell? p=w.cell? p:=World.cell?_of_block (w:=w) (h.block p.block hp hs)
theorem Keep.drew{S:Nat→Prop}{a w:World}(h:Keep S a w):Keep S a w.drew:=⟨h.os,h.tape,h.output,h.size,h.block⟩
theorem Keep.alloc{S:Nat→Prop}{a w:World}(h:Keep S a w)(o:Obj):Keep S a (w.alloc o):=
 ⟨h.os,h.tape,h.output,by have:=h.size;simp;omega,fun k hk hs=>by rw[Below.heap_alloc _ _ _ (yM hk h.size)];exact h.block k hk hs⟩
theorem Keep.setCell{S:Nat→Prop}{a w:World}(h:Keep S a w){p:Addr}(hp:S p.block∨a.heap.size≤p.block)(u:Value):Keep S a (w.setCell p u):=
 ⟨h.os,h.tape,h.output,by simpa using h.size,fun k hk hs=>by
  rw[Below.heap_setCell _ _ _ _ (by
                   rintro rfl;rcases hp with hp|hp;· exact hs hp
                   omega)]
  exact h.block k hk hs⟩
theorem Keep.setCells{S:Nat→Prop}{g:Nat}:∀(vs:List Value) {a w:World} (o:Nat),Keep S a w→(S g∨a.heap.size≤g)→Keep S a (w.setCells g o vs)
 | [],_,_,_,h,_=>h
 | v::r,_,_,o,h,hg=>by
  rw[World.setCells];exact Keep.setCells r (o+1) (h.setCell hg v) hg
theorem Keep.grown{S:Nat→Prop}{a w w':World}{row:Option Nat}(h:Keep S a w)(hg:w.grownBy w' row)(hr:∀k,row=some k→S k∨a.heap.size≤k):Keep S a w':=by
 have hb:Below 0 a a:=Below.refl 0 a;refine⟨hg.os.trans h.os,hg.tape.trans h.tape,hg.output.trans h.output,Nat.le_trans h.size hg.size,fun k hk hs=>?_⟩
 rw[hg.block k (yM hk h.size) (by
                          rintro e;rcases hr k e.symm with h'|h';· exact hs h'
                          omega)]
 exact h.block k hk hs
theorem Blk.keep{S:Nat→Prop}{w w':World}{g:Nat}{cs:Array Value}{t:TypeId}(h:Blk w g cs t)(k:Keep S w w')(hs:¬S g):Blk w' g cs t:=by
 unfold Blk;rw[k.block g h.lt hs];exact h
theorem aBf{S:Nat→Prop}{w w':World}{base:Nat}{e:TypeId}{size:Nat}{v:Value}{n:Nat}{xs:List Value}(h:w.ownsRow base e size v n xs)(k:Keep S w w')(hs:∀b,v.ownBlock=some b→¬S b):w'.ownsRow base e size v n xs:=by
 obtain⟨h1,h2⟩:=h;refine⟨h1,?_⟩;rcases h2 with h2|⟨g,cap,cur,rfl,hb,hg,hr⟩
 ·exact .inl h2
 refine .inr ⟨g,cap,cur,rfl,hb,?_,hr⟩;rw[k.block g (lt_of_block hg) (hs g rfl)];exact hg
theorem aAh{w:World}{base:Nat}{e:TypeId}{size:Nat}{v:Value}{n:Nat}{xs:List Value}(h:w.ownsRow base e size v n xs){b:Nat}(hb:v.ownBlock=some b):base≤b∧b<w.heap.size∧∃cur,w.heap[b]? = some (.cells cur e (0,0)):=by
 obtain⟨_,h2⟩:=h;rcases h2 with⟨rfl,_⟩|⟨g,cap,cur,rfl,hge,hg,_⟩
 ·cases hb
 cases hb;exact⟨hge,lt_of_block hg,cur,hg⟩
theorem aBp{w:World}{base:Nat}{e:TypeId}{size:Nat}{v:Value}{n:Nat}{xs:List Value}(h:w.ownsRow base e size v n xs){g:Nat}{cs:Array Value}{t:TypeId}(hg:Blk w g cs t)(hne:e≠t):∀b,v.ownBlock=some b→¬b=g:=by
 intro b hb e';obtain⟨_,_,cur,hc⟩:=aAh h hb;subst e';unfold Blk at hg;rw[hc]at hg;simp at hg;exact hne hg.2
theorem aAe{w:World}{base:Nat}{e:TypeId}{size:Nat}{v:Value}{n:Nat}{xs:List Value}(h:w.ownsRow base e size v n xs):
  ∃(ao:Option Addr) (cap:Nat),v=.slice ao n cap∧n≤cap∧cap≤maxLen∧xs.length=n*size∧(0<n→∃b,ao=some ⟨b,0,none⟩∧base≤b∧b<w.heap.size∧(∀j,j<n*size→w.cell? ⟨b,j,none⟩=xs[j]?)∧∀j,w.frozen? ⟨b,j,none⟩=false):=by
 have h':=h;obtain⟨h1,h2⟩:=h;rcases h2 with⟨rfl,rfl⟩|⟨g,cap,cur,rfl,hb,hg,hc1,hc2,hc3,hc4⟩
 ·exact⟨none,0,rfl,Nat.le_refl _,by decide,h1,fun h=>absurd h (by omega)⟩
 exact⟨some ⟨g,0,none⟩,cap,rfl,hc1,hc2,h1,fun _=>⟨g,rfl,hb,lt_of_block hg,fun j hj=>h'.cellAt j hj,fun j=>h'.frozenAt j⟩⟩
theorem Blk.grown{w w':World}{g:Nat}{cs:Array Value}{t:TypeId}{row:Option Nat}(h:Blk w g cs t)(hg:w.grownBy w' row)(hne:row≠some g):Blk w' g cs t:=by
 unfold Blk;rw[hg.block g h.lt (fun e=>hne e.symm)];exact h
theorem aAn{w w':World}{base:Nat}{e:TypeId}{size:Nat}{v:Value}{n:Nat}{xs:List Value}(h:w.ownsRow base e size v n xs)(k:Below w.heap.size w w'):w'.ownsRow base e size v n xs:=
 aBf h (pAE (S:=fun _=>False) k) (fun _ _=>id)
theorem aKf{w:World}{base base':Nat}{e:TypeId}{size:Nat}{v:Value}{n:Nat}{xs:List Value}(h:w.ownsRow base e size v n xs)(hb:base'≤base):w.ownsRow base' e size v n xs:=by
 obtain⟨h1,h2⟩:=h;refine⟨h1,?_⟩;rcases h2 with h2|⟨g,cap,cur,rfl,hge,hr⟩
 ·exact .inl h2
 exact .inr ⟨g,cap,cur,rfl,by omega,hr⟩
theorem aJe{α:Type}(f:α→List Value)(n:Nat)(hf:∀x,(f x).length=n):∀(l:List α) (i j:Nat),j<n→(l.flatMap f)[i*n+j]? = (l[i]?).bind fun x=>(f x)[j]?
 | [],i,j,_=>by simp
 | x::r,0,j,hj=>by simp[List.getElem?_append,hf,hj]
 | x::r,i+1,j,hj=>by
  rw[List.flatMap_cons,List.getElem?_append_right (by rw[hf,Nat.add_mul];omega),hf,show(i+1)*n+j - n=i*n+j by rw[Nat.add_mul];omega];rw[aJe f n hf r i j hj];simp
theorem flat_len{α:Type}(f:α→List Value)(n:Nat)(hf:∀x,(f x).length=n)(l:List α):(l.flatMap f).length=l.length*n:=by
 induction l with
 | nil=>simp
 | cons x r ih=>simp[hf,ih,Nat.add_mul];omega
structure Ln where
 cr:Int
 de:Int
 cu:Int
 li:Int
 db:Int
deriving DecidableEq
def Ln.vals(x:Ln):List Value:=[.int .u8 x.cr,.int .u8 x.de,.int .u8 x.cu,.int .i64 x.li,.int .i64 x.db]
def lnCells(ls:List Ln):List Value:=ls.flatMap Ln.vals
def Ln.rank(x:Ln):Int:=x.cu*65536+x.cr*256+x.de
def In8(n:Int):Prop:=0≤n∧n≤255
structure Ln.Fits(x:Ln):Prop where
 cr:In8 x.cr
 de:In8 x.de
 cu:In8 x.cu
 li:In64 x.li
 db:In64 x.db
theorem aHm{a b c n d:Int}(h1:0≤a∧a≤255)(h2:0≤b∧b≤255)(h3:0≤c∧c≤255)(h4:0≤n∧n≤1099511627776)(h5:0≤d∧d≤1099511627776):(⟨a,b,c,n,d⟩:Ln).Fits:=
 ⟨h1,h2,h3,⟨Int.le_trans (by decide) h4.1,Int.le_trans h4.2 (by decide)⟩,⟨Int.le_trans (by decide) h5.1,Int.le_trans h5.2 (by decide)⟩⟩
def Ln.is(x:Ln)(a b c:Int):Bool:=x.cr==a && x.de==b && x.cu==c
def atL(ls:List Ln)(a b c:Int):Int:=match ls.findIdx? (fun x=>x.is a b c)with|some i=>i|none => -1
def aAl(ls:List Ln)(a b c:Int):Option Ln:=ls.find? fun x=>x.is a b c
def noLn:Ln:=⟨0,0,0,0,0⟩
def aA1(x:Ln)(s:List Ln×Bool)(y:Ln):List Ln×Bool:=
 if y.rank=x.rank then s else if s.2=false∧x.rank<y.rank then(s.1++[x,y],true)else(s.1++[y],s.2)
def aLu(ls:List Ln)(x:Ln):List Ln×Bool:=ls.foldl (aA1 x) ([],x.li==0)
def setL(ls:List Ln)(x:Ln):List Ln:=if(aLu ls x).2=false then(aLu ls x).1++[x]else(aLu ls x).1
theorem at_found{ls:List Ln}{a b c:Int}{k:Nat}(h:k<ls.length)(hn:∀x∈ls.take k,x.is a b c=false)(hx:ls[k].is a b c=true):atL ls a b c=k∧aAl ls a b c=some ls[k]:=by
 have e:ls=ls.take k++ls[k]::ls.drop (k+1):=by rw[List.getElem_cons_drop,List.take_append_drop]
 have h1:ls.findIdx? (fun x=>x.is a b c)=some k:=by
  rw[List.findIdx?_eq_some_iff_getElem];refine⟨h,hx,fun j hj=>?_⟩;have:=hn ls[j] (by rw[List.mem_take_iff_getElem];exact⟨j,by omega,rfl⟩);simp[this]
 refine⟨by unfold atL;rw[h1],?_⟩;unfold aAl;rw[List.find?_eq_some_iff_getElem];refine⟨hx,k,h,rfl,fun j hj=>?_⟩;have:=hn ls[j] (by rw[List.mem_take_iff_getElem];exact⟨j,by omega,rfl⟩);simp[this]
theorem at_none{ls:List Ln}{a b c:Int}(hn:∀x∈ls,x.is a b c=false):atL ls a b c = -1∧aAl ls a b c=none:=by
 refine⟨?_,?_⟩
 ·unfold atL;rw[List.findIdx?_eq_none_iff.2 hn]
 unfold aAl;rw[List.find?_eq_none];intro x hx;simp[hn x hx]
theorem at_cases(ls:List Ln)(a b c:Int):(∃(k:Nat) (h:k<ls.length),atL ls a b c=k∧aAl ls a b c=some ls[k]∧ls[k].is a b c=true)∨(atL ls a b c = -1∧aAl ls a b c=none∧∀x∈ls,x.is a b c=false):=by
 by_cases h:∀x∈ls,x.is a b c=false
 ·exact .inr ⟨(at_none h).1,(at_none h).2,h⟩
 left
 cases hf:ls.findIdx? (fun x=>x.is a b c)with
 | none=>
  exact absurd (List.findIdx?_eq_none_iff.1 hf) h
 | some k=>
  obtain⟨hk,hx,hn⟩:=List.findIdx?_eq_some_iff_getElem.1 hf
  obtain⟨h1,h2⟩:=at_found hk (a:=a) (b:=b) (c:=c) (by
   intro x hx;obtain⟨j,hj,rfl⟩:=List.mem_take_iff_getElem.1 hx;have:=hn j (by omega);simpa using this) hx
  exact⟨k,hk,h1,h2,hx⟩
def aHn(b:Bool):Nat:=cond b 0 1
theorem unput_le(b:Bool):aHn b≤1:=by cases b <;> simp[aHn]
theorem aHo(x:Ln)(s:List Ln×Bool)(y:Ln):(aA1 x s y).1.length+aHn (aA1 x s y).2≤s.1.length+aHn s.2+1:=by
 unfold aA1;split
 ·omega
 split
 ·rename_i h;have e1:(s.1++[x,y]).length=s.1.length+2:=by simp
  have e2:aHn true=0:=rfl;have e3:aHn false=1:=rfl;rw[h.1];dsimp only;omega
 have e1:(s.1++[y]).length=s.1.length+1:=by simp
 dsimp only;omega
theorem setTo_len(ls:List Ln)(x:Ln):(aLu ls x).1.length≤ls.length+1:=by
 have key:∀(l:List Ln) (s:List Ln×Bool),(l.foldl (aA1 x) s).1.length+aHn (l.foldl (aA1 x) s).2≤s.1.length+aHn s.2+l.length:=by
  intro l
  induction l with
  | nil=>intro s;exact Nat.le_refl _
  | cons y r ih=>
   intro s;have h1:=ih (aA1 x s y);have h2:=aHo x s y;simp only[List.foldl_cons,List.length_cons];omega
 have:=key ls ([],x.li==0);unfold aLu;simp only[List.length_nil]at this;have h2:=unput_le (x.li==0);omega
def lnAt(ls:List Ln)(a b c:Int):Ln:=(aAl ls a b c).getD noLn
structure Ln.Good(x:Ln):Prop where
 cr:1≤x.cr∧x.cr≤16
 de:1≤x.de∧x.de≤16
 cu:1≤x.cu∧x.cu≤8
 ne:x.cr≠x.de
 li:1≤x.li∧x.li≤1099511627776
 db:0≤x.db∧x.db≤x.li
theorem Ln.Good.fits{x:Ln}(h:x.Good):x.Fits:=by
 obtain⟨h1,h2,h3,_,h5,h6⟩:=h;exact⟨⟨by omega,by omega⟩,⟨by omega,by omega⟩,⟨by omega,by omega⟩,⟨by omega,by omega⟩,⟨by omega,by omega⟩⟩
theorem aAo{ls:List Ln}{a b c:Int}{x:Ln}(h:aAl ls a b c=some x):x∈ls∧x.cr=a∧x.de=b∧x.cu=c:=by
 unfold aAl at h;refine⟨List.mem_of_find?_eq_some h,?_⟩;have:=List.find?_some h;unfold Ln.is at this;simp only[Bool.and_eq_true,beq_iff_eq]at this;exact⟨this.1.1,this.1.2,this.2⟩
theorem aB6{ls:List Ln}(hg:∀y∈ls,y.Good)(a b c:Int):0≤(lnAt ls a b c).db∧(lnAt ls a b c).db≤(lnAt ls a b c).li∧(lnAt ls a b c).li≤1099511627776:=by
 unfold lnAt
 cases h:aAl ls a b c with
 | none=>simp[noLn]
 | some x=>have:=hg x (aAo h).1;have h5:=this.li;have h6:=this.db;simp;omega
def aA9(ps:List Int)(ls:List Ln)(a b c:Int):Int:=if a=b∨a∉ps∨b∉ps then 0 else(lnAt ls a b c).db+(lnAt ls b a c).li - (lnAt ls b a c).db
theorem aG8{ps:List Int}{ls:List Ln}(hg:∀y∈ls,y.Good)(a b c:Int):0≤aA9 ps ls a b c∧aA9 ps ls a b c≤2199023255552:=by
 unfold aA9;have h1:=aB6 hg a b c;have h2:=aB6 hg b a c;split <;> omega
def aAg(ps:List Int)(ls:List Ln)(a b c n:Int):Int:=
 if a<1∨16<a∨b<1∨16<b∨c<1∨8<c∨a=b∨n<0∨1099511627776<n then 1
 else if a∉ps∨b∉ps then 7
 else if n<(lnAt ls a b c).db then 14
 else if aAl ls a b c=none∧0<n∧64≤ls.length then 9 else 0
def aAq(ps:List Int)(ls:List Ln)(a b c n:Int):List Ln:=if aAg ps ls a b c n=0 then setL ls ⟨a,b,c,n,(lnAt ls a b c).db⟩else ls
def Ln.owe(x:Ln)(d:Int):Ln:=⟨x.cr,x.de,x.cu,x.li,d⟩
def aCz(ps:List Int)(ls:List Ln)(a b c n:Int):Int:=if n<1 then 1 else if aA9 ps ls a b c<n then 11 else 0
def aF4(ls:List Ln)(a b c n:Int):List Ln:=if(aAl ls a b c).isSome=true then setL ls ((lnAt ls a b c).owe ((lnAt ls a b c).db - min n (lnAt ls a b c).db))else ls
def push2(ls:List Ln)(a b c n:Int):Int:=if(aAl ls a b c).isSome=true then n - min n (lnAt ls a b c).db else n
def aBn(ls:List Ln)(a b c n:Int):List Ln:=
 if 0<push2 ls a b c n then setL (aF4 ls a b c n) ((lnAt (aF4 ls a b c n) b a c).owe ((lnAt (aF4 ls a b c n) b a c).db+push2 ls a b c n))else aF4 ls a b c n
def aCo(ps:List Int)(ls:List Ln)(a b c n:Int):List Ln:=if aCz ps ls a b c n=0 then aBn ls a b c n else ls
theorem setL_len(ls:List Ln)(x:Ln):(setL ls x).length≤ls.length+1:=by
 have key:∀(l:List Ln) (s:List Ln×Bool),(l.foldl (aA1 x) s).1.length+aHn (l.foldl (aA1 x) s).2≤s.1.length+aHn s.2+l.length:=by
  intro l
  induction l with
  | nil=>intro s;exact Nat.le_refl _
  | cons y r ih=>
   intro s;have h1:=ih (aA1 x s y);have h2:=aHo x s y;simp only[List.foldl_cons,List.length_cons];omega
 have h1:=key ls ([],x.li==0);have h2:=unput_le (x.li==0);simp only[List.length_nil]at h1;unfold setL aLu;split
 ·rename_i h;rw[h,show aHn false=1 from rfl]at h1;simp;omega
 omega
def aF5(p c:Int)(x:Ln):Int:=if x.cu=c then(if x.cr=p then x.db else 0) - (if x.de=p then x.db else 0)else 0
def posL(ls:List Ln)(p c:Int):Int:=(ls.map (aF5 p c)).sum
structure Spec where
 p:Nat
 q:Nat
 zero:Obj
 full:Obj
def upd(g:Nat→Nat)(p a:Nat):Nat→Nat:=fun i=>if i=p then a else g i
theorem aJf(g:Nat→Nat)(p a:Nat):upd g p a p=a:=by simp[upd]
theorem aEd(g:Nat→Nat){p i:Nat}(a:Nat)(h:i≠p):upd g p a i=g i:=by simp[upd,h]
def SpecOk(W w:World)(g:Nat→Nat)(D:Nat→Bool)(s:Spec):Prop:=
 D s.p=true→W.heap.size≤g s.p∧w.heap[g s.p]? = some (if D s.q then s.full else s.zero)
def aIt(bs:List Spec):Bool:=bs.all fun s=>bs.all fun s'=>s.p==s'.p || (s.p != s'.q && s.q != s'.p && s.q != s'.q)
structure Lays(W:World)(bs:List Spec)(g:Nat→Nat)(D:Nat→Bool)(w:World):Prop where
 below:Below W.heap.size W w
 ok:∀s∈bs,SpecOk W w g D s
 apart:∀s∈bs,∀s'∈bs,D s.p=true→D s'.p=true→s.p≠s'.p→g s.p≠g s'.p
theorem Lays.start(W:World)(bs:List Spec)(g:Nat→Nat):Lays W bs g (fun _=>false) W.drew:=
 ⟨yZ.drew,fun s _ h=>by simp at h,fun s _ s' _ h=>by simp at h⟩
theorem aBy{k i:Nat}(D:Nat→Bool)(h:i≠k):ins k D i=D i:=by simp[ins,h]
theorem aG9(k:Nat)(D:Nat→Bool):ins k D k=true:=by simp[ins]
theorem Lays.step{W w w':World}{bs:List Spec}{g:Nat→Nat}{D:Nat→Bool}{k:Nat}(h:Lays W bs g D w)(hb:Below w.heap.size w w')(hk:bs.all (fun s=>s.p != k && s.q != k)=true):Lays W bs g (ins k D) w':=by
 obtain⟨h1,h2,h3⟩:=h
 have hk':∀s∈bs,s.p≠k∧s.q≠k:=fun s hs=>by
  have:=List.all_eq_true.1 hk s hs;simpa using this
 refine⟨h1.trans (hb.mono h1.size),fun s hs hd=>?_,fun s hs s' hs' hd hd' hne=>?_⟩
 ·rw[aBy D (hk' s hs).1]at hd;obtain⟨a,b⟩:=h2 s hs hd;rw[aBy D (hk' s hs).2];exact⟨a,by rw[hb.block _ (Array.getElem?_eq_some_iff.1 b).1];exact b⟩
 rw[aBy D (hk' s hs).1]at hd;rw[aBy D (hk' s' hs').1]at hd';exact h3 s hs s' hs' hd hd' hne
theorem Lays.lay{W w:World}{bs:List Spec}{g:Nat→Nat}{D:Nat→Bool}(h:Lays W bs g D w)(s:Spec)(hs:s∈bs)(ha:aIt bs=true)(hq:s.q=s.p∨D s.q=false)(hone:bs.all (fun s'=>s'.p != s.p || s'.q==s.q)=true)
  (hsame:∀s'∈bs,s'.p=s.p→s'=s)(o:Obj)(ho:o=if s.q=s.p then s.full else s.zero):Lays W bs (upd g s.p w.heap.size) (ins s.p D) (w.alloc o):=by
 obtain⟨h1,h2,h3⟩:=h
 have hap:∀s'∈bs,s'.p≠s.p→s'.q≠s.p:=fun s' hs' hne=>by
  have:=List.all_eq_true.1 (List.all_eq_true.1 ha s' hs') s hs;simp only[Bool.or_eq_true,beq_iff_eq,Bool.and_eq_true,bne_iff_ne,ne_eq]at this;rcases this with e|e
  ·exact absurd e hne
  exact e.1.2
 refine⟨h1.alloc h1.size _,fun s' hs' hd=>?_,fun s1 hs1 s2 hs2 hd1 hd2 hne=>?_⟩
 ·by_cases he:s'.p=s.p
  ·have:=hsame s' hs' he;subst this;rw[aJf];refine⟨h1.size,?_⟩;have e1:(w.alloc o).heap[w.heap.size]? = some o:=by show(w.heap.push _)[w.heap.size]? = _;simp
   rw[e1,ho]
   by_cases hqp:s'.q=s'.p
   ·rw[if_pos hqp,hqp,aG9];rfl
   rw[if_neg hqp,aBy D hqp];rcases hq with e|e
   ·exact absurd e hqp
   rw[e];rfl
  rw[aBy D he]at hd;obtain⟨a,b⟩:=h2 s' hs' hd;rw[aEd g _ he,aBy D (hap s' hs' he)];exact⟨a,by rw[Below.heap_alloc _ _ _ (Array.getElem?_eq_some_iff.1 b).1];exact b⟩
 have lt:∀s'∈bs,s'.p≠s.p→ins s.p D s'.p=true→g s'.p<w.heap.size:=fun s' hs' he hd=>by
  rw[aBy D he]at hd;exact(Array.getElem?_eq_some_iff.1 (h2 s' hs' hd).2).1
 by_cases e1:s1.p=s.p
 ·by_cases e2:s2.p=s.p
  ·exact absurd (e1.trans e2.symm) hne
  have:=lt s2 hs2 e2 hd2;rw[e1,aJf,aEd g _ e2];omega
 by_cases e2:s2.p=s.p
 ·have:=lt s1 hs1 e1 hd1;rw[e2,aJf,aEd g _ e1];omega
 rw[aEd g _ e1,aEd g _ e2];rw[aBy D e1]at hd1;rw[aBy D e2]at hd2;exact h3 s1 hs1 s2 hs2 hd1 hd2 hne
theorem Lays.fill{W w w':World}{bs:List Spec}{g:Nat→Nat}{D:Nat→Bool}(h:Lays W bs g D w)(s:Spec)(hs:s∈bs)(ha:aIt bs=true)(hqp:s.q≠s.p)(hsame:∀s'∈bs,s'.p=s.p→s'=s)(hd:D s.p=true)
  (hk:Keep (·=g s.p) w w')(hf:w'.heap[g s.p]? = some s.full):Lays W bs g (ins s.q D) w':=by
 obtain⟨h1,h2,h3⟩:=h;have hg:=(h2 s hs hd).1
 have hap:∀s'∈bs,s'.p≠s.p→s'.q≠s.q∧s'.p≠s.q:=fun s' hs' hne=>by
  have:=List.all_eq_true.1 (List.all_eq_true.1 ha s' hs') s hs;simp only[Bool.or_eq_true,beq_iff_eq,Bool.and_eq_true,bne_iff_ne,ne_eq]at this;rcases this with e|e
  ·exact absurd e hne
  exact⟨e.2,e.1.1⟩
 refine⟨⟨hk.os.trans h1.os,hk.tape.trans h1.tape,hk.output.trans h1.output,Nat.le_trans h1.size hk.size,fun i hi=>by rw[hk.block i (yM hi h1.size) (by omega)];exact h1.block i hi⟩,fun s' hs' hd'=>?_,fun s1 hs1 s2 hs2 hd1 hd2 hne=>?_⟩
 ·by_cases he:s'.p=s.p
  ·have:=hsame s' hs' he;subst this;rw[aG9];exact⟨hg,hf⟩
  rw[aBy D (hap s' hs' he).2]at hd';obtain⟨a,b⟩:=h2 s' hs' hd';rw[aBy D (hap s' hs' he).1];exact⟨a,by rw[hk.block _ (Array.getElem?_eq_some_iff.1 b).1 (h3 s' hs' s hs hd' hd he)];exact b⟩
 have pn:∀s'∈bs,s'.p≠s.q:=fun s' hs'=>by
  by_cases he:s'.p=s.p
  ·rw[he];exact fun e=>hqp e.symm
  exact(hap s' hs' he).2
 rw[aBy D (pn s1 hs1)]at hd1;rw[aBy D (pn s2 hs2)]at hd2;exact h3 s1 hs1 s2 hs2 hd1 hd2 hne
theorem Lays.full{W w:World}{bs:List Spec}{g:Nat→Nat}{D:Nat→Bool}(h:Lays W bs g D w)(s:Spec)(hs:s∈bs)(hp:D s.p=true)(hq:D s.q=true):W.heap.size≤g s.p∧w.heap[g s.p]? = some s.full:=by
 obtain⟨a,b⟩:=h.ok s hs hp;rw[hq]at b;exact⟨a,b⟩
theorem Lays.zeroed{W w:World}{bs:List Spec}{g:Nat→Nat}{D:Nat→Bool}(h:Lays W bs g D w)(s:Spec)(hs:s∈bs)(hp:D s.p=true)(hq:D s.q=false):W.heap.size≤g s.p∧w.heap[g s.p]? = some s.zero:=by
 obtain⟨a,b⟩:=h.ok s hs hp;rw[hq]at b;exact⟨a,b⟩
def aDr(ops:Array Oper):Nat→Nat→Nat→Bool
 | 0,_,_=>false
 | d+1,i,j=>match ops[i]? with
  | some o=>o.after.any fun e=>Region.binds .any e && (e.on==j || aDr ops d e.on j)
  | none=>false
theorem aBa{ops:Array Oper}{D:Nat→Bool}(hC:aCy ops D){j:Nat}(hj:D j=false):∀(d i:Nat),aDr ops d i j=true→D i=false
 | 0,i,h=>by simp[aDr]at h
 | d+1,i,h=>by
  unfold aDr at h;split at h
  ·rename_i o ho;obtain⟨e,he,hb⟩:=Array.any_eq_true'.1 h;simp only[Bool.and_eq_true,Bool.or_eq_true,beq_iff_eq]at hb
   by_cases hi:D i=true
   ·exfalso;have hw:=hC i o ho hi e he hb.1;rcases hb.2 with h2|h2
    ·rw[h2,hj]at hw;cases hw
    rw[aBa hC hj d e.on h2]at hw;cases hw
   simpa using hi
  cases h
theorem aA2{ops:Array Oper}{D:Nat→Bool}(hC:aCy ops D){o:Oper}(hw:aDb D o){d j:Nat}(h:(o.after.any fun e=>Region.binds .any e && (e.on==j || aDr ops d e.on j))=true):D j=true:=by
 obtain⟨e,he,hb⟩:=Array.any_eq_true'.1 h;simp only[Bool.and_eq_true,Bool.or_eq_true,beq_iff_eq]at hb;have h1:=hw e he hb.1;rcases hb.2 with h2|h2
 ·rw[←h2];exact h1
 by_cases hj:D j=true
 ·exact hj
 rw[aBa hC (by simpa using hj) d e.on h2]at h1;cases h1
theorem aCp{n:Nat}(ops:Array Oper)(vals:(Nat→Nat)→List Value)(g:Nat→Nat)(p a d:Nat){D:Nat→Bool}(hC:aCy ops D)(hp:D p=false)
  (h:∀j,j<n→(j=p∨aDr ops d j p=true)∨(vals g).getD j undef=(vals (upd g p a)).getD j undef):∀j,j<n→D j=true→(vals g).getD j undef=(vals (upd g p a)).getD j undef:=by
 intro j hj hD;rcases h j hj with(rfl|h)|h
 ·rw[hp]at hD;cases hD
 ·rw[aBa hC hp d j h]at hD;cases hD
 exact h
theorem aAf{w:World}(g:Nat)(cs:Array Value):Keep (·=g) w (w.setRow g cs):=
 ⟨rfl,rfl,rfl,by simp[World.setRow],fun k _ hk=>setRow_other w g k cs (fun e=>hk e)⟩
section
variable{P:Program}{ops:Array Oper}{Q:Exit→Act→World→Prop}{a:Act}
theorem aBv{id:Nat}{w:World}(hm:P.follows .mixedOrders=true)(n d:Nat)(vals:List Value)(S:World→Prop)(hok:aBh ops=true)(hsz:ops.size=n+1)
  (hlast:(List.range n).all (fun j=>aDr ops d n j)=true)(h0:S w.drew)
  (h:∀af,puts (fun i=>vals.getD i undef) 0 ops.toList a=af→aBx P ops af S (ops.toList.take n)∧∀w',S w'→OpTo P ops af (ops.toList.getD n default) w' (fun w''=>Q .normal af w'')):
  (Code.region id ops true).wp P Q a w:=by
 obtain⟨h1,h2⟩:=h _ rfl;refine wp_region_any hm ?_;have haf':frOf ops (fun i=>vals.getD i undef) (fun _=>true) a=puts (fun i=>vals.getD i undef) 0 ops.toList a:=aDi hok;have hfr:=aCw ops (fun i=>vals.getD i undef) a
 have hz:(fun i=>(Array.replicate ops.size false).getD i false)=fun _=>false:=by
  funext i;simp[Array.getD_eq_getD_getElem?,Array.getElem?_replicate];split <;> rfl
 have key:=aEu (P:=P) (Q:=Q) (val:=fun i=>vals.getD i undef) (a:=a) (I:=fun D w'=>if D n=true then Q .normal (puts (fun i=>vals.getD i undef) 0 ops.toList a) w' else S w') hm hok
  (fun i o ho D w' hDi hw hc hI=>by
   rw[haf']
   have hi:i<ops.size:=by
    rcases Nat.lt_or_ge i ops.size with h'|h'
    ·exact h'
    simp[Array.getElem?_eq_none h']at ho
   by_cases hin:i=n
   ·subst hin;rw[hDi]at hI;simp only[ins,beq_self_eq_true,Bool.true_or,if_true];have h3:=h2 w' hI
    rwa [List.getD_eq_getElem?_getD,Array.getElem?_toList,ho]at h3
   have hDn:D n=false:=aBa hc hDi d n (List.all_eq_true.1 hlast i (by simp;omega));rw[hDn]at hI;have:(ins i D) n=false:=by simp[ins,hDn];omega
   simp only[this];exact h1.at (i:=i) (by rw[List.getElem?_take];simp[show i<n by omega,ho]) w' hI)
  (fun D w' hall hI=>by
   rw[haf']
   rwa [if_pos (hall n (by omega))]at hI)
  ops.size (Array.replicate ops.size false) w.drew (by simp) (by simp) (fun j o ho hj=>by
   simp[Array.getD_eq_getD_getElem?,Array.getElem?_replicate]at hj;split at hj <;> simp at hj) (by
   have:(Array.replicate ops.size false).getD n false=false:=by simp[Array.getD_eq_getD_getElem?,Array.getElem?_replicate];split <;> rfl
   show if(Array.replicate ops.size false).getD n false=true then _ else S w.drew
   rw[this];exact h0)
 rw[hz,hfr]at key;exact key
end
theorem aC0{P:Program}{w w':World}{o:Oper}{a:Act}{K:Act→World→Prop}{Q:Exit→Act→World→Prop}(t:TypeId)(m x v:Operand)(ho:o.op=.mapUpdate t m x v){mv xv vv:Value}
  (hm:a.eval m=mv)(hx:a.eval x=xv)(hv:a.eval v=vv)(hr:(Instr.mapUpdate t mv xv vv).run P w=.ok () w')(h:K (a.put o.dst undef) w'):o.wp P a w K Q:=by
 unfold Oper.wp;simp only[execOp,ho,hm,hx,hv,Sem.run_bind,hr,Result.andThen_ok];exact h
theorem aGr{P:Program}{w w':World}{o:Oper}{a:Act}{K:Act→World→Prop}{Q:Exit→Act→World→Prop}(m x:Operand)(t k:TypeId){mv xv:Value}
  (ho:o.op=.call { callee:=.builtin .delete,args:=#[m,x],argTypes:=#[t,k] })(hm:a.eval m=mv)(hx:a.eval x=xv)
  (hr:(Builtin.delete_ #[t,k] o.type #[mv,xv]).run P w=.ok (.tuple #[]) w')(h:K (a.put o.dst (.tuple #[])) w'):o.wp P a w K Q:=by
 unfold Oper.wp execOp;simp only[ho,resolve,invoke,builtin,Sem.run_bind,Sem.run_pure,Result.andThen_ok,List.map_toArray,List.map_cons,List.map_nil,hm,hx,hr];exact h
def Once(c:Nat)(S T:World→Prop)(D:Nat→Bool)(w:World):Prop:=(D c=false→S w)∧(D c=true→T w)
theorem Once.pre{c:Nat}{S T:World→Prop}{D:Nat→Bool}{w:World}(h:Once c S T D w)(hn:D c=false):S w:=h.1 hn
theorem Once.post{c:Nat}{S T:World→Prop}{D:Nat→Bool}{w:World}(h:Once c S T D w)(hn:D c=true):T w:=h.2 hn
def aHa(ops:Array Oper)(m i:Nat):Nat:=match m.testBit i with
 | true=>match ops[i]? with
  | some o=>o.after.foldl (fun m e=>match Region.binds .any e with
   | true=>m ||| 2 ^ e.on
   | false=>m) m
  | none=>m
 | false=>m
def need(ops:Array Oper)(c:Nat):Nat:=(List.range (c+1)).reverse.foldl (aHa ops) (2 ^ c)
theorem aJg{ops:Array Oper}{D:Nat→Bool}(hC:aCy ops D){m:Nat}(i:Nat)(hm:∀j,m.testBit j=true→D j=true):∀j,(aHa ops m i).testBit j=true→D j=true:=by
 intro j hj;unfold aHa at hj;split at hj
 ·rename_i hi;split at hj
  ·rename_i o ho;have hw:=hC i o ho (hm i hi);rw[←Array.foldl_toList]at hj
   have key:∀(l:List Edge) (m:Nat),(∀e∈l,e∈o.after)→(∀j,m.testBit j=true→D j=true)→∀j,(l.foldl (fun m e=>match Region.binds .any e with|true=>m ||| 2 ^ e.on|false=>m) m).testBit j=true→D j=true:=by
    intro l
    induction l with
    | nil=>intro m _ h j hj;exact h j hj
    | cons e r ih=>
     intro m he h j hj;rw[List.foldl_cons]at hj;refine ih _ (fun e' h'=>he e' (List.mem_cons_of_mem _ h')) ?_ j hj;intro j' hj';split at hj'
     ·rename_i hb;rw[Nat.testBit_or,Bool.or_eq_true]at hj';rcases hj' with hj'|hj'
      ·exact h j' hj'
      rw[Nat.testBit_two_pow,decide_eq_true_eq]at hj';subst hj';exact hw e (he e List.mem_cons_self) hb
     exact h j' hj'
   exact key _ m (fun e he=>by simpa using he) hm j hj
  exact hm j hj
 exact hm j hj
theorem aKg{ops:Array Oper}{D:Nat→Bool}(hC:aCy ops D){c:Nat}(hc:D c=true):∀j,(need ops c).testBit j=true→D j=true:=by
 have key:∀(l:List Nat) (m:Nat),(∀j,m.testBit j=true→D j=true)→∀j,(l.foldl (aHa ops) m).testBit j=true→D j=true:=by
  intro l
  induction l with
  | nil=>intro m h j hj;exact h j hj
  | cons i r ih=>intro m h j hj;exact ih _ (aJg hC i h) j hj
 refine key _ _ fun j hj=>?_
 rw[Nat.testBit_two_pow,decide_eq_true_eq]at hj;subst hj;exact hc
theorem aAj{ops:Array Oper}{D:Nat→Bool}(hC:aCy ops D){j:Nat}(hj:D j=false)(c:Nat)(h:(need ops c).testBit j=true):D c=false:=by
 cases hc:D c with
 | false=>rfl
 | true=>rw[aKg hC hc j h]at hj;cases hj
theorem aC1{ops:Array Oper}{D:Nat→Bool}(hC:aCy ops D){o:Oper}(hw:aDb D o){c:Nat}(h:(o.after.any fun e=>Region.binds .any e && (need ops e.on).testBit c)=true):D c=true:=by
 obtain⟨e,he,hb⟩:=Array.any_eq_true'.1 h;simp only[Bool.and_eq_true]at hb;exact aKg hC (hw e he hb.1) c hb.2
def aDc(n:Nat):Code→Option Code
 | .region i ops m=>match i==n with
  | true=>some (.region i ops m)
  | false=>none
 | .seq a b=>match aDc n a with
  | some c=>some c
  | none=>aDc n b
 | .cond _ a b=>match aDc n a with
  | some c=>some c
  | none=>aDc n b
 | .block _ c=>aDc n c
 | .scope c=>aDc n c
 | .loop c=>aDc n c
 | _=>none
section
variable{P:Program}{ops:Array Oper}{Q:Exit→Act→World→Prop}{a:Act}
def LeftBy(af:Act)(o:Oper)(R:Value→World→Prop)(a':Act)(w':World):Prop:=∃v,a'=af.put o.dst v∧R v w'
def OpGets(P:Program)(ops:Array Oper)(af:Act)(o:Oper)(w:World)(R:Value→World→Prop):Prop:=
 if Region.wanted o (yielded ops af.tmps)then o.wp P af w (fun a' w'=>LeftBy af o R a' w') (fun _ _ _=>False)else R undef w
theorem OpGets.wanted{af:Act}{o:Oper}{w:World}{R:Value→World→Prop}(hw:Region.wanted o (yielded ops af.tmps)=true)(h:o.wp P af w (fun a' w'=>LeftBy af o R a' w') (fun _ _ _=>False)):OpGets P ops af o w R:=by
 unfold OpGets;rw[if_pos hw];exact h
end
def aLv(w:World)(v:Value)(size n:Nat)(xs:List Value):Prop:=
 ∃(ao:Option Addr) (cap:Nat),v=.slice ao n cap∧n≤100000000∧xs.length=n*size∧(0<n→∃b off,ao=some ⟨b,off,none⟩∧b<w.heap.size∧∀j,j<n*size→w.cell? ⟨b,off+j,none⟩=xs[j]?)
theorem aCa{P:Program}(w:World)(t e:TypeId)(sz:Nat)(ht:P.underlying t=some (.slice e))(hs:(sizeOf e).run P w=.ok sz w)(b n cap:Nat)(h:n≤cap):
  (Instr.sliceAt t (.slice (some ⟨b,0,none⟩) n cap) none (some (.int .i64 n)) (some (.int .i64 n))).run P w=.ok (.slice (some ⟨b,0,none⟩) n n) w:=by
 have he:P.elem t=e:=by simp[Program.elem,ht]
 simp[Instr.sliceAt,Instr.slice,run_underlying ht,Instr.sliceBounds,run_sliceBound,hs,h,Result.andThen,Addr.add]
theorem aBc{P:Program}(w:World)(t e:TypeId)(sz:Nat)(ht:P.underlying t=some (.slice e))(hs:(sizeOf e).run P w=.ok sz w):
  (Instr.sliceAt t (.slice none 0 0) none (some (.int .i64 0)) (some (.int .i64 0))).run P w=.ok (.slice none 0 0) w:=by
 simp[Instr.sliceAt,Instr.slice,run_underlying ht,Instr.sliceBounds,run_sliceBound,hs,Result.andThen,Addr.add]
def aBq(w:World)(base:Nat)(e:TypeId)(size:Nat)(v:Value)(n:Nat)(xs:List Value):Prop:=
 xs.length=n*size∧((v=.slice none 0 0∧n=0)∨∃g cur,v=.slice (some ⟨g,0,none⟩) n n∧base≤g∧w.heap[g]? = some (.cells cur e (0,0))∧n≤maxLen∧n*size≤cur.size∧cur.toList.take (n*size)=xs)
theorem aBq.keep{S:Nat→Prop}{w w':World}{base:Nat}{e:TypeId}{size:Nat}{v:Value}{n:Nat}{xs:List Value}(h:aBq w base e size v n xs)(k:Keep S w w')(hs:∀b,v.ownBlock=some b→¬S b):aBq w' base e size v n xs:=by
 obtain⟨h1,h2⟩:=h;refine⟨h1,?_⟩;rcases h2 with h2|⟨g,cur,rfl,hb,hg,hr⟩
 ·exact .inl h2
 refine .inr ⟨g,cur,rfl,hb,?_,hr⟩;rw[k.block g (lt_of_block hg) (hs g rfl)];exact hg
theorem aBq.below{w w':World}{base:Nat}{e:TypeId}{size:Nat}{v:Value}{n:Nat}{xs:List Value}(h:aBq w base e size v n xs)(k:Below w.heap.size w w'):aBq w' base e size v n xs:=
 h.keep (pAE (S:=fun _=>False) k) (fun _ _=>id)
theorem aBq.base{w:World}{base b':Nat}{e:TypeId}{size:Nat}{v:Value}{n:Nat}{xs:List Value}(h:aBq w base e size v n xs)(hb:b'≤base):aBq w b' e size v n xs:=by
 obtain⟨h1,h2⟩:=h;refine⟨h1,?_⟩;rcases h2 with h2|⟨g,cur,hv,hg,hr⟩
 ·exact .inl h2
 exact .inr ⟨g,cur,hv,Nat.le_trans hb hg,hr⟩
theorem aBq.type{w:World}{base:Nat}{e:TypeId}{size:Nat}{v:Value}{n:Nat}{xs:List Value}(h:aBq w base e size v n xs){b:Nat}(hb:v.ownBlock=some b):base≤b∧b<w.heap.size∧∃cur,w.heap[b]? = some (.cells cur e (0,0)):=by
 obtain⟨_,h2⟩:=h;rcases h2 with⟨rfl,_⟩|⟨g,cur,rfl,hge,hg,_⟩
 ·cases hb
 cases hb;exact⟨hge,lt_of_block hg,cur,hg⟩
theorem aBq.reads{w:World}{base:Nat}{e:TypeId}{size:Nat}{v:Value}{n:Nat}{xs:List Value}(h:aBq w base e size v n xs)(hn:n≤100000000):aLv w v size n xs:=by
 obtain⟨h1,h2⟩:=h;rcases h2 with⟨rfl,rfl⟩|⟨g,cur,rfl,_,hg,_,hc,ht⟩
 ·exact⟨none,0,rfl,by omega,h1,fun h=>by omega⟩
 refine⟨_,n,rfl,hn,h1,fun hp=>⟨g,0,rfl,lt_of_block hg,fun j hj=>?_⟩⟩;rw[Nat.zero_add];show w.cell? ⟨g,j,none⟩=_;simp only[World.cell?,hg,Option.isSome_none,Bool.false_eq_true,if_false];rw[←ht,List.getElem?_take_of_lt hj,Array.getElem?_toList]
def aHb(w:World)(base:Nat)(e:TypeId)(size n:Nat)(v:Value)(xs:List Value)(en:Ending)(w':World):Prop:=
 ∃v',en=.returned v'∧aBq w' base e size v' n xs∧v'.ownBlock=v.ownBlock∧w'=w
def aJh(w:World)(e:TypeId)(size n:Nat)(xs:List Value)(en:Ending)(w':World):Prop:=
 ∃v',en=.returned v'∧aBq w' w.heap.size e size v' n xs∧Below w.heap.size w w'
def aJi(w:World)(base g:Nat)(e:TypeId)(size n:Nat)(xs marks:List Value):Prop:=w.ownsRow base e size (.slice (some ⟨g,0,none⟩) (n+2) (n+2)) (n+2) (xs++marks)
theorem aJi.cells{w:World}{base g:Nat}{e:TypeId}{size n:Nat}{xs marks:List Value}(h:aJi w base g e size n xs marks):g<w.heap.size∧∀j,j<(n+2)*size→w.cell? ⟨g,j,none⟩=(xs++marks)[j]? := by
 obtain⟨ao,cap,hv,_,_,_,hr⟩:=aAe h
 cases hv
 obtain⟨b,hb,_,hlt,hc,_⟩:=hr (by omega)
 cases hb
 exact⟨hlt,hc⟩
theorem aJi.reads{w:World}{base g:Nat}{e:TypeId}{size n:Nat}{xs marks:List Value}(h:aJi w base g e size n xs marks)(hn:n≤100000000)(hx:xs.length=n*size):aLv w (.slice (some ⟨g,0,none⟩) n (n+2)) size n xs:=by
 obtain⟨hlt,hc⟩:=h.cells;refine⟨_,_,rfl,hn,hx,fun _=>⟨g,0,rfl,hlt,fun j hj=>?_⟩⟩;rw[Nat.zero_add,hc j (by rw[Nat.add_mul];omega),List.getElem?_append_left (by omega)]
structure Fw where
 fr:Int
 tt:Int
 am:Int
deriving DecidableEq
def Fw.vals(x:Fw):List Value:=[.int .u8 x.fr,.int .u8 x.tt,.int .i64 x.am]
theorem Fw.vals_len(x:Fw):x.vals.length=3:=rfl
def aBb(ls:List Fw):List Value:=ls.flatMap Fw.vals
def Fw.val(x:Fw):Value:=.agg #[.int .u8 x.fr,.int .u8 x.tt,.int .i64 x.am]
theorem aLw(ls:List Fw):(aBb ls).length=ls.length*3:=flat_len _ 3 Fw.vals_len ls
theorem aDs(ls:List Fw)(i j:Nat)(hj:j<3)(h:i<ls.length):(aBb ls)[i*3+j]? = ls[i].vals[j]? := by
 unfold aBb;rw[aJe _ 3 Fw.vals_len ls i j hj,List.getElem?_eq_getElem h];rfl
structure Fw.Fits(x:Fw):Prop where
 fr:In8 x.fr
 tt:In8 x.tt
 am:In64 x.am
theorem info_fw:(Tryz.prog.info? 220).map (fun i=>(i.zero,i.size,i.bytes))=some (some (Fw.val ⟨0,0,0⟩),3,16):=by kernel_rfl
def aKh(f:Int→Int→Int)(m:Nat):Fw:=⟨((m/16:Nat):Int)+1,((m%16:Nat):Int)+1,f (((m/16:Nat):Int)+1) (((m%16:Nat):Int)+1)⟩
def prefE(f:Int→Int→Int)(m:Nat):List Fw:=((List.range m).map (aKh f)).filter fun x=>decide (0<x.am)
def allE(f:Int→Int→Int):List Fw:=prefE f 256
theorem edge_at(f:Int→Int→Int){p q:Nat}(hq:q<16):aKh f (p*16+q)=⟨(p:Int)+1,(q:Int)+1,f ((p:Int)+1) ((q:Int)+1)⟩:=by
 unfold aKh;rw[show(p*16+q)/16=p by omega,show(p*16+q)%16=q by omega]
structure RefG(w:World)(base g:Nat)(es:List Fw)(vl:Value):Prop where
 blk:Blk w g #[vl] 256
 ge:base≤g
 row:w.ownsRow base 220 3 vl es.length (aBb es)
def CapB(es:List Fw)(B:Int):Prop:=∀x∈es,0<x.am∧x.am≤B
theorem prefE_mem{f:Int→Int→Int}{m:Nat}{x:Fw}:x∈prefE f m↔∃i,i<m∧aKh f i=x∧0<x.am:=by
 unfold prefE;simp only[List.mem_filter,List.mem_map,List.mem_range,decide_eq_true_eq]
 constructor
 ·rintro⟨⟨i,hi,he⟩,h⟩;exact⟨i,hi,he,h⟩
 rintro⟨i,hi,he,h⟩;exact⟨⟨i,hi,he⟩,h⟩
def inP(p:Int):Prop:=1≤p∧p≤16
theorem allE_mem{f:Int→Int→Int}{x:Fw}:x∈allE f↔inP x.fr∧inP x.tt∧x.am=f x.fr x.tt∧0<x.am:=by
 unfold allE;rw[prefE_mem]
 constructor
 ·rintro⟨i,hi,he,h⟩;unfold aKh at he;subst he;refine⟨⟨?_,?_⟩,⟨?_,?_⟩,rfl,h⟩ <;> dsimp only <;> omega
 rintro⟨⟨h1,h2⟩,⟨h3,h4⟩,h5,h6⟩;refine⟨(x.fr.toNat - 1)*16+(x.tt.toNat - 1),by omega,?_,h6⟩;rw[edge_at f (by omega)];have e1:((x.fr.toNat - 1:Nat):Int)+1=x.fr:=by omega
 have e2:((x.tt.toNat - 1:Nat):Int)+1=x.tt:=by omega
 rw[e1,e2,←h5]
def updE(f:Int→Int→Int)(a b n p q:Int):Int:=if p=a∧q=b then n else f p q
theorem CapB.all{f:Int→Int→Int}{B:Int}(h:∀p q,inP p→inP q→f p q≤B):CapB (allE f) B:=by
 intro x hx;have:=allE_mem.1 hx;exact⟨this.2.2.2,by rw[this.2.2.1];exact h _ _ this.1 this.2.1⟩
structure GInv(f:Int→Int→Int)(B:Int):Prop where
 nn:∀p q,0≤f p q
 pair:∀p q,f p q+f q p≤B
 out:∀p q,¬(inP p∧inP q)→f p q=0
 self:∀p,f p p=0
theorem GInv.le{f:Int→Int→Int}{B:Int}(h:GInv f B)(p q:Int):f p q≤B:=by have:=h.pair p q;have:=h.nn q p;omega
theorem GInv.ends{f:Int→Int→Int}{B:Int}(h:GInv f B){p q:Int}(h0:0<f p q):inP p∧inP q∧p≠q:=by
 by_cases hi:inP p∧inP q
 ·refine⟨hi.1,hi.2,?_⟩;rintro rfl;have:=h.self p;omega
 have:=h.out p q hi;omega
def aE2(_ _:Int):Int:=0
theorem GInv.zero{B:Int}(h:0≤B):GInv aE2 B:=⟨fun _ _=>Int.le_refl _,fun _ _=>by unfold aE2;omega,fun _ _ _=>rfl,fun _=>rfl⟩
def aBd(f:Int→Int→Int)(a b n p q:Int):Int:=if p=b∧q=a then f b a+n else if p=a∧q=b then f a b - n else f p q
theorem GInv.push{f:Int→Int→Int}{B:Int}(h:GInv f B){a b n:Int}(h1:1≤n)(h2:n≤f a b):GInv (aBd f a b n) B:=by
 obtain⟨ha,hb,hne⟩:=h.ends (p:=a) (q:=b) (by omega);have hba:=h.nn b a;refine⟨fun p q=>?_,fun p q=>?_,fun p q hi=>?_,fun p=>?_⟩
 ·unfold aBd;have:=h.nn p q;split
  ·omega
  split <;> omega
 ·have hp:=h.pair p q;have hab:=h.pair a b
  by_cases c1:p=b∧q=a
  ·obtain⟨rfl,rfl⟩:=c1;have e1:aBd f q p n p q=f p q+n:=by unfold aBd;rw[if_pos ⟨rfl,rfl⟩]
   have e2:aBd f q p n q p=f q p - n:=by unfold aBd;rw[if_neg (fun e=>hne e.1),if_pos ⟨rfl,rfl⟩]
   omega
  by_cases c2:p=a∧q=b
  ·obtain⟨rfl,rfl⟩:=c2;have e1:aBd f p q n p q=f p q - n:=by unfold aBd;rw[if_neg (fun e=>hne e.1),if_pos ⟨rfl,rfl⟩]
   have e2:aBd f p q n q p=f q p+n:=by unfold aBd;rw[if_pos ⟨rfl,rfl⟩]
   omega
  have e1:aBd f a b n p q=f p q:=by unfold aBd;rw[if_neg c1,if_neg c2]
  have e2:aBd f a b n q p=f q p:=by unfold aBd;rw[if_neg (fun e=>c2 ⟨e.2,e.1⟩),if_neg (fun e=>c1 ⟨e.2,e.1⟩)]
  omega
 ·unfold aBd;rw[if_neg (fun e=>hi ⟨by rw[e.1];exact hb,by rw[e.2];exact ha⟩),if_neg (fun e=>hi ⟨by rw[e.1];exact ha,by rw[e.2];exact hb⟩)];exact h.out p q hi
 unfold aBd;rw[if_neg (fun e=>hne (e.2.symm.trans e.1)),if_neg (fun e=>hne (e.1.symm.trans e.2))];exact h.self p
end Go.Proofs.YtaeocliklpcgmaaGreat
