/- Pieces of one proof. -/
import Derived.Test.YtaeocliklpcgmaaGreatB17
import Derived.Laws.AppendOwnNone
import Derived.Deep.RegionWith
import Derived.Shelf.SlSortCmp.NoneTotal
import Derived.Sort.Grow
set_option linter.all false
set_option maxHeartbeats 64000000
set_option maxRecDepth 100000
namespace Go.Proofs.YtaeocliklpcgmaaGreat
open Go.RowKit
noncomputable def routeS(f:Int→Int→Int)(a b n:Int):RS:=@Classical.epsilon RS ⟨⟨f,n,[]⟩⟩ (fun μ=>aAc f 4398046511104 a b n μ)
theorem aB7{f:Int→Int→Int}(h:GInv f 4398046511104)(a b n:Int):aAc f 4398046511104 a b n (routeS f a b n):=
 @Classical.epsilon_spec RS (fun μ=>aAc f 4398046511104 a b n μ) (aCw h a b n)
noncomputable def aD0(ps:List Int)(ls:List Ln)(c a b:Int):Int:=aBd - (routeS (aBr ps ls c) a b aBd).left
theorem goesS{ps:List Int}{ls:List Ln}(h:LInv ps ls)(o:Of)(tk pt:Int):Goes ps ls o tk pt (aD0 ps ls o.sl o.ow pt) (aD0 ps ls o.bu tk o.ow):=
 ⟨⟨_,aB7 (aAq h _) _ _ _,rfl⟩,_,aB7 (aAq h _) _ _ _,rfl⟩
theorem Goes.eqS{ps:List Int}{ls:List Ln}{o:Of}{tk pt m1 m2:Int}(h:LInv ps ls)(g:Goes ps ls o tk pt m1 m2):m1=aD0 ps ls o.sl o.ow pt∧m2=aD0 ps ls o.bu tk o.ow:=by
 obtain⟨⟨μ,h1,rfl⟩,ν,h2,rfl⟩:=g;unfold aD0;rw[h1.eq (aB7 (aAq h _) _ _ _),h2.eq (aB7 (aAq h _) _ _ _)];exact⟨rfl,rfl⟩
theorem mostS_bd{ps:List Int}{ls:List Ln}(h:LInv ps ls)(c a b:Int):0≤aD0 ps ls c a b∧aD0 ps ls c a b≤1125899906842624:=
 aGa (aAq h c) (aB7 (aAq h c) a b aBd)
noncomputable def mayS(ps:List Int)(ls:List Ln)(l:List Of)(tk pt want most s:Int):Int:=match aA4 l s with
 | none=>0
 | some o=>mayO o ps tk pt want most (aD0 ps ls o.sl o.ow pt) (aD0 ps ls o.bu tk o.ow)
theorem aJe{ps:List Int}{ls:List Ln}(h:LInv ps ls){l:List Of}{tk pt want most s m1 m2:Int}(g:∀o,aA4 l s=some o→Goes ps ls o tk pt m1 m2):mayV l ps s tk pt want most m1 m2=mayS ps ls l tk pt want most s:=by
 unfold mayV mayS
 cases hf:aA4 l s with
 | none=>rfl
 | some o=>
  obtain⟨e1,e2⟩:=(g o hf).eqS h;simp only[];rw[e1,e2]
theorem mayS_nn{ps:List Int}{ls:List Ln}(h:LInv ps ls){l:List Of}{N:Int}(hJ:BInv l N)(tk pt want most s:Int):0≤mayS ps ls l tk pt want most s∧mayS ps ls l tk pt want most s≤max want 0:=by
 obtain⟨m1,m2,g,h1,h2⟩:=aGs h l s tk pt;rw[←aJe h g];exact mayV_nn hJ h1
noncomputable def aHb(ps:List Int)(ls:List Ln)(a b c n:Int):List Ln:=payL ps ls a b c n (routeS (aBr ps ls c) a b n)
noncomputable def aB5(ps:List Int)(ls:List Ln)(o:Of)(tk pt n x:Int):List Ln:=aHb ps (if pt=o.ow then ls else aHb ps ls o.ow pt o.sl n) tk o.ow o.bu x
theorem aFg{ps:List Int}{ls:List Ln}(h:LInv ps ls)(a b c n:Int):LInv ps (aHb ps ls a b c n):=aIa h _ _ _ _ _
theorem aHc{ps:List Int}{ls:List Ln}(h:LInv ps ls)(o:Of)(tk pt n x:Int):aHq ps ls o tk pt n x (aB5 ps ls o tk pt n x):=by
 unfold aB5
 by_cases e:pt=o.ow
 ·rw[if_pos e];exact⟨ls,_,.inl ⟨e,rfl⟩,aB7 (aAq h _) _ _ _,rfl⟩
 rw[if_neg e];exact⟨_,_,.inr ⟨e,_,aB7 (aAq h _) _ _ _,rfl⟩,aB7 (aAq (aFg h _ _ _ _) _) _ _ _,rfl⟩
theorem aJf{ps:List Int}{ls:List Ln}(h:LInv ps ls)(o:Of)(tk pt n x:Int):LInv ps (aB5 ps ls o tk pt n x):=(aHc h o tk pt n x).inv h
def okS(ps:List Int)(ls:List Ln)(l:List Of)(tk pt n s:Int):Prop:=1≤n∧n≤mayS ps ls l tk pt n 1099511627776 s
theorem aLd{ps:List Int}{ls:List Ln}(h:LInv ps ls){l:List Of}{tk pt n s m1 m2:Int}(g:∀o,aA4 l s=some o→Goes ps ls o tk pt m1 m2):doOk l ps s tk pt n m1 m2↔okS ps ls l tk pt n s:=by
 unfold doOk okS;rw[aJe h g]
theorem may_okS{ps:List Int}{ls:List Ln}(h:LInv ps ls){l:List Of}{tk pt want most s k:Int}(hk:k=mayS ps ls l tk pt want most s)(h1:1≤k):okS ps ls l tk pt k s∧k≤want:=by
 obtain⟨m1,m2,g,b1,b2⟩:=aGs h l s tk pt;have e:mayV l ps s tk pt want most m1 m2=k:=by rw[aJe h g,hk]
 obtain⟨a,b,_⟩:=may_do b1 b2 e h1;exact⟨(aLd h g).1 a,b⟩
noncomputable def aAv(ps:List Int)(ls:List Ln)(l:List Of)(tk pt want most:Int):List Of→Option (Int×Int)
 | []=>none
 | o::os=>if 0<mayS ps ls l tk pt want most o.se then some (o.se,mayS ps ls l tk pt want most o.se)else aAv ps ls l tk pt want most os
theorem aJg{ps:List Int}{ls:List Ln}{l:List Of}{tk pt want most:Int}:∀{os:List Of} {s k:Int},aAv ps ls l tk pt want most os=some (s,k)→0<k∧k=mayS ps ls l tk pt want most s∧∃o∈os,o.se=s
 | [],s,k,h=>by simp[aAv]at h
 | o::os,s,k,h=>by
  unfold aAv at h;split at h
  ·rename_i hp;simp only[Option.some.injEq,Prod.mk.injEq]at h;obtain⟨rfl,rfl⟩:=h;exact⟨hp,rfl,o,List.mem_cons_self,rfl⟩
  obtain⟨h1,h2,o',h3,h4⟩:=aJg h;exact⟨h1,h2,o',List.mem_cons_of_mem _ h3,h4⟩
structure Fl where
 se:Int
 got:Int
 gi:Int
structure SwS where
 ls:List Ln
 l:List Of
 fs:List Fl
 n:Int
def swMay(fr pt get give n most:Int):Prop:=(1≤fr∧fr≤16)∧(1≤pt∧pt≤16)∧(1≤get∧get≤8)∧(1≤give∧give≤8)∧get≠give∧(1≤n∧n≤1099511627776)∧1≤most∧most≤1099511627776
instance(fr pt get give n most:Int):Decidable (swMay fr pt get give n most):=by unfold swMay;infer_instance
theorem aD4{l:List Of}{N:Int}(h:BInv l N){s b:Int}{o:Of}(ho:o∈aC6 l s b):o∈l∧o.sl=s∧o.bu=b:=by
 have h1:=((aLc h.may h.rise s b).1.mem_iff).1 ho;rw[List.mem_filter]at h1;obtain⟨h2,h3⟩:=h1;simp[aAx]at h3;exact⟨h2,h3.1,h3.2⟩
theorem aLe{l:List Of}{N:Int}(h:BInv l N){o:Of}(ho:o∈l):aA4 l o.se=some o:=by
 cases hf:aA4 l o.se with
 | none=>
  unfold aA4 at hf;rw[List.find?_eq_none]at hf;exact absurd (by simp) (hf o ho)
 | some o'=>
  obtain⟨h1,h2⟩:=aBq hf
  have key:∀{m:List Of},m.Pairwise (fun x y=>x.se<y.se)→o∈m→o'∈m→o=o':=by
   intro m hm
   induction m with
   | nil=>intro a;cases a
   | cons z m ih=>
    intro a b;have hz:=(List.pairwise_cons.1 hm).1;rcases List.mem_cons.1 a with ea|a
    ·rcases List.mem_cons.1 b with eb|b
     ·rw[ea,eb]
     have:=hz _ b;rw[←ea]at this;omega
    rcases List.mem_cons.1 b with eb|b
    ·have:=hz _ a;rw[←eb]at this;omega
    exact ih (List.pairwise_cons.1 hm).2 a b
  rw[key h.rise ho h1]
def likeO(a b:Of):Prop:=a.ow=b.ow∧a.sl=b.sl∧a.bu=b.bu∧a.nu=b.nu∧a.de=b.de
theorem take_like{l:List Of}{N:Int}(h:BInv l N){s n:Int}{o:Of}(hf:aA4 l s=some o)(h1:1≤n)(h2:n≤o.lf){t:Int}{x:Of}(hx:aA4 (aCx l s n) t=some x):∃y,aA4 l t=some y∧likeO y x:=by
 obtain⟨hm,hs⟩:=aBq hx;rw[take_facts h hf h1 h2]at hm;obtain⟨_,y,hy,hor⟩:=aK7 hm;rcases hor with rfl|⟨_,rfl⟩
 ·exact⟨x,by rw[←hs];exact aLe h hy,rfl,rfl,rfl,rfl,rfl⟩
 exact⟨y,by rw[←hs];exact aLe h hy,rfl,rfl,rfl,rfl,rfl⟩
def flBy(l0:List Of)(tk pt:Int)(f:Fl)(p c:Int):Int:=match aA4 l0 f.se with
 | none=>0
 | some o=>aMq o tk pt f.got f.gi p c
def aLf(ps:List Int)(tk pt get give:Int)(falls:Bool):List Fl→List Ln→List Of→Int→Int→List Ln→List Of→Prop
 | [],ls,l,_,_,ls',l'=>ls=ls'∧l=l'
 | f::fs,ls,l,want,most,ls',l'=>aAv ps ls l tk pt want most (aC6 l get give)=some (f.se,f.got)∧∃o,aA4 l f.se=some o∧f.gi=upN (f.got*o.nu) o.de∧
   aLf ps tk pt get give falls fs (aB5 ps ls o tk pt f.got f.gi) (aCx l f.se f.got) (if falls then want else want - f.got) (if falls then most - f.gi else most) ls' l'
theorem aKj{ps:List Int}{ls:List Ln}{l:List Of}{tk pt want most:Int}:∀{os:List Of} {s k:Int},aAv ps ls l tk pt want most os=some (s,k)→∃m,∃hm:m<os.length,os[m].se=s∧mayS ps ls l tk pt want most s=k∧0<k∧∀j (hj:j<m),¬0<mayS ps ls l tk pt want most (os[j]'(Nat.lt_trans hj hm)).se
 | [],s,k,h=>by simp[aAv]at h
 | o::os,s,k,h=>by
  unfold aAv at h;split at h
  ·rename_i hp;simp only[Option.some.injEq,Prod.mk.injEq]at h;obtain⟨rfl,rfl⟩:=h;exact⟨0,by simp,rfl,rfl,hp,fun j hj=>absurd hj (by omega)⟩
  rename_i hp;obtain⟨m,hm,h1,h2,h3,h4⟩:=aKj h;refine⟨m+1,by simpa using hm,h1,h2,h3,fun j hj=>?_⟩
  cases j with
  | zero=>exact hp
  | succ j=>exact h4 j (by omega)
def aIc(w:World)(b:Nat)(os:List Of):Prop:=∀w',Below w.heap.size w w'→b<w'.heap.size∧∀k (hk:k<os.length),
 w'.cell? ⟨b,k*7,none⟩=some (.int .u64 os[k].se)∧w'.cell? ⟨b,k*7+1,none⟩=some (.int .u8 os[k].ow)∧w'.cell? ⟨b,k*7+2,none⟩=some (.int .u8 os[k].sl)∧w'.cell? ⟨b,k*7+3,none⟩=some (.int .u8 os[k].bu)∧w'.cell? ⟨b,k*7+4,none⟩=some (.int .i64 os[k].lf)∧w'.cell? ⟨b,k*7+5,none⟩=some (.int .i64 os[k].nu)∧w'.cell? ⟨b,k*7+6,none⟩=some (.int .i64 os[k].de)
theorem aIc.below{w w':World}{b:Nat}{os:List Of}(h:aIc w b os)(k:Below w.heap.size w w'):aIc w' b os:=fun w2 q=>h w2 (andB k q)
theorem aOk{w:World}{base:Nat}{e:TypeId}{v:Value}{os:List Of}(h:aBu w base e 7 v os.length (aAa os))(hp:0<os.length):∃b cap,v=.slice (some ⟨b,0,none⟩) os.length cap∧os.length≤cap∧cap≤maxLen∧aIc w b os:=by
 obtain⟨ao,cap,rfl,h1,h2,_,h4⟩:=h.look;obtain⟨b,rfl,_,hb,hc,_⟩:=h4 hp;refine⟨b,cap,rfl,h1,h2,fun w' q=>⟨yM hb q.size,fun k hk=>?_⟩⟩;exact aB0 (w:=w') (fun j hj=>by rw[q.cell (p:=⟨b,j,none⟩) hb];exact hc j hj) hk
theorem aJh(HMy:aDg){w:World}{base G M gb:Nat}{ps:List Int}{ls:List Ln}{l:List Of}{N:Int}{vb:Value}(hL:LedM w G M ps ls)(hI:LInv ps ls)(hP:PB w base gb l N vb)(hJ:BInv l N)
  (s tk pt want most:Int)(hs:0≤s∧s≤18446744073709551615)(ht:In8 tk)(hto:In8 pt)(hw:In64 want)(hmo:In64 most):
  Calls Tryz.prog 32 #[.agg #[.pointer (some ⟨G,0,none⟩),.pointer (some ⟨gb,0,none⟩)],.int .u64 s,.int .u8 tk,.int .u8 pt,.int .i64 want,.int .i64 most] w (yR w (.int .i64 (mayS ps ls l tk pt want most s))):=by
 obtain⟨m1,m2,g,_,_⟩:=aGs hI l s tk pt;rw[←aJe hI g];exact HMy hL hI hP hJ s tk pt want most m1 m2 hs ht hto hw hmo g
def PDoS(w:World)(base G M gb:Nat)(ps:List Int)(ls:List Ln)(l:List Of)(N:Int)(vb:Value)(s tk pt n:Int)(e:Ending)(w':World):Prop:=
 (¬okS ps ls l tk pt n s∧e=.returned (.tuple #[aHp,.int .i64 1])∧Below w.heap.size w w')∨
 (okS ps ls l tk pt n s∧∃o x vb',aA4 l s=some o∧x=upN (n*o.nu) o.de∧e=.returned (.tuple #[.agg #[.int .u64 s,.int .u8 tk,.int .u8 pt,.int .i64 n,.int .i64 x],.int .i64 0])∧
  LedM w' G M ps (aB5 ps ls o tk pt n x)∧PB w' base gb (aCx l s n) N vb'∧Keep (fun k=>k=G∨k=M∨Foot gb vb k) w w'∧aDf w vb vb')
theorem aId(HD:aEq){w:World}{base G M gb:Nat}{ps:List Int}{ls:List Ln}{l:List Of}{N:Int}{vb:Value}(hL:LedM w G M ps ls)(hI:LInv ps ls)(hP:PB w base gb l N vb)(hJ:BInv l N)
  (s tk pt n:Int)(hs:0≤s∧s≤18446744073709551615)(ht:In8 tk)(hto:In8 pt)(hn:In64 n):
  Calls Tryz.prog 87 #[.agg #[.pointer (some ⟨G,0,none⟩),.pointer (some ⟨gb,0,none⟩)],.int .u64 s,.int .u8 tk,.int .u8 pt,.int .i64 n] w (PDoS w base G M gb ps ls l N vb s tk pt n):=by
 obtain⟨m1,m2,g,_,_⟩:=aGs hI l s tk pt;refine(HD hL hI hP hJ s tk pt n m1 m2 hs ht hto hn g).mono ?_;rintro e w' (⟨a,b,c⟩|⟨a,o,x,ls',vb',b,c,d,f,h1,h2,h3,h4⟩)
 ·exact .inl ⟨fun q=>a ((aLd hI g).2 q),b,c⟩
 rw[d.eq (aHc hI o tk pt n x)]at h1;exact .inr ⟨(aLd hI g).1 a,o,x,vb',b,c,f,h1,h2,h3,h4⟩
theorem aHd{P:Program}(w:World){ops:Array Oper}{rest:List Oper}{o:Oper}{a:Act}{Q:Exit→Act→World→Prop}(hgd:o.guard=none)(s x:Operand)(t e:TypeId)
  (ho:o.op=.call { callee:=.builtin .append,args:=#[s,x],argTypes:=#[t,t] }){z:Value}{sz by':Nat}(ht:P.underlying t=some (.slice e))(hinf:(P.info? e).map (fun i=>(i.zero,i.size,i.bytes))=some (some z,sz,by'))(hzs:z.cells.size=sz)(h0:0<sz)(hby:by'≤1000)
  (base:Nat)(v:Value)(n:Nat)(xs:List Value)(hs:a.eval s=v)(hown:w.ownsRow base e sz v n xs)(g c:Nat)(vs:List Value)(hvs:vs.length=sz)(hx:a.eval x=.slice (some ⟨g,0,none⟩) 1 c)(hy:Blk w g vs.toArray e)(h1:∀u∈vs,u.oneCell'=true)(hlen:n≤100000)(hbase:base≤w.heap.size)
  (h:∀v' w',w'.ownsRow base e sz v' (n+1) (xs++vs)→w.grownBy w' v.ownBlock→wpList P ops Q rest (a.put o.dst v') w'):wpList P ops Q (o::rest) a w:=by
 obtain⟨i0,hi,hz0,hz1,hz2⟩:=info_parts hinf;refine wpList_append_own w hgd s x t ho base e i0 z sz by' ht hi hz0 hz1 hz2 hzs h0 v n xs hs hown ⟨g,0,none⟩ 1 c vs hx (by rw[hvs];omega) ?_ h1 (by unfold maxLen;omega) ?_ hbase ?_
 ·intro j u hj;rw[Go.WideShapes.add_plain,Nat.zero_add,hy.cell j];simpa using hj
 ·refine Nat.le_trans (Nat.mul_le_mul_left _ hby) ?_;omega
 intro v' w' h2 h3 _;exact h v' w' h2 h3
def signed(neg:Bool)(x:Nat):Int:=if neg then -(x:Int)else x
def Fl.vals(tk pt:Int)(f:Fl):List Value:=[.int .u64 f.se,.int .u8 tk,.int .u8 pt,.int .i64 f.got,.int .i64 f.gi]
def aC7(tk pt:Int)(fs:List Fl):List Value:=fs.flatMap (Fl.vals tk pt)
theorem aOl(tk pt:Int)(fs:List Fl):(aC7 tk pt fs).length=fs.length*5:=aHy _ 5 (fun _=>rfl) fs
theorem aOm(tk pt:Int)(fs:List Fl)(i j:Nat)(hj:j<5)(h:i<fs.length):(aC7 tk pt fs)[i*5+j]? = (fs[i].vals tk pt)[j]? := by
 unfold aC7;rw[aGd _ 5 (fun _=>rfl) fs i j hj,List.getElem?_eq_getElem h];rfl
theorem aMu(tk pt:Int)(fs:List Fl)(f:Fl):aC7 tk pt (fs++[f])=aC7 tk pt fs++f.vals tk pt:=by
 unfold aC7;rw[List.flatMap_append];simp
theorem clipFl_any{w:World}{base:Nat}{v:Value}{n:Nat}{xs:List Value}(h:w.ownsRow base 73 5 v n xs):
  Calls Tryz.prog 104 #[v] w (aGf w base 73 5 n v xs):=by
 rcases h.2 with⟨rfl,h0⟩|⟨g,cap,cur,rfl,hbase,hb,h1,h2,h3,h4⟩
 ·subst h0;have hr:=aBa (P:=Tryz.prog) w 38 73 5 Tryz.underlying38 (Tryz.sizeOf73 w);have hx:=h.1;have hx2:=yH hx;clear h hx;go_enter Tryz.func104,Tryz.ntmps104;go_wp2;refine bodyPost_ret (v:=.slice none 0 0) (by simp[results,Tryz.results104,go_sem]) rfl ?_;exact⟨_,rfl,⟨hx2.out,.inl ⟨rfl,rfl⟩⟩,rfl,rfl⟩
 have hr:=aB6 (P:=Tryz.prog) w 38 73 5 Tryz.underlying38 (Tryz.sizeOf73 w) g n cap h1;have HR:=yH (show aBu w base 73 5 (.slice (some ⟨g,0,none⟩) n n) n xs from⟨h.1,.inr ⟨g,cur,rfl,hbase,hb,by omega,by omega,h4⟩⟩);clear h hb h4 h3;unfold maxLen at h2;go_enter Tryz.func104,Tryz.ntmps104;go_wp2;refine bodyPost_ret (v:=.slice (some ⟨g,0,none⟩) n n) (by simp[results,Tryz.results104,go_sem]) rfl ?_;exact⟨_,rfl,HR.out,rfl,rfl⟩
def FillsIn(w:World)(ao:Option Addr)(tk pt:Int)(fs:List Fl):Prop:=
 ∀k (h:k<fs.length),∃b,ao=some ⟨b,0,none⟩∧∀w',Below w.heap.size w w'→b<w'.heap.size∧∀j,j<5→w'.cell? ⟨b,k*5+j,none⟩=(fs[k].vals tk pt)[j]?
theorem aJi{w:World}{base:Nat}{ao:Option Addr}{n cap:Nat}{e:TypeId}{tk pt:Int}{fs:List Fl}(h:aBu w base e 5 (.slice ao n cap) n (aC7 tk pt fs)):FillsIn w ao tk pt fs:=by
 intro k hk;have hz:=aOl tk pt fs;obtain⟨ao',cap',hv,_,_,hl,h4⟩:=h.look
 cases hv
 obtain⟨b,rfl,_,hb,hc,_⟩:=h4 (by omega);refine⟨b,rfl,fun w' q=>⟨yM hb q.size,fun j hj=>?_⟩⟩;rw[q.cell (p:=⟨b,k*5+j,none⟩) hb,hc _ (by omega),aOm tk pt fs k j hj hk]
end Go.Proofs.YtaeocliklpcgmaaGreat
namespace Go.Proofs.YtaeocliklpcgmaaGreat
open Go.RowKit Go.Shelf
def sortO_ren:Go.Shelf.Ren:=⟨fun|6=>78|15=>120|14=>132|28=>169|29=>170|20=>175|21=>176|22=>177|23=>178|24=>179|25=>180|26=>181|27=>182|46=>203|47=>199|48=>200|49=>204|50=>205|57=>220|n=>n,fun|22=>61|24=>129|25=>143|3=>3|39=>133|0=>0|53=>233|55=>39|4=>4|46=>226|45=>225|50=>230|5=>5|9=>9|66=>257|70=>260|76=>288|77=>289|n=>n,fun|n=>n⟩
theorem sortO:Go.Proofs.SlLaysF0.n6 Tryz.prog sortO_ren:={
 mixed:=by kernel_rfl
 f6:=⟨Tryz.f78.name,by decide,Tryz.func78.trans (congrArg some (by kernel_rfl))⟩
 f14:=⟨Tryz.f132.name,by decide,Tryz.func132.trans (congrArg some (by kernel_rfl))⟩
 f15:=Tryz.func120.trans (congrArg some (by kernel_rfl))
 f20:=⟨Tryz.f175.name,by decide,Tryz.func175.trans (congrArg some (by kernel_rfl))⟩
 f21:=⟨Tryz.f176.name,by decide,Tryz.func176.trans (congrArg some (by kernel_rfl))⟩
 f22:=⟨Tryz.f177.name,by decide,Tryz.func177.trans (congrArg some (by kernel_rfl))⟩
 f23:=⟨Tryz.f178.name,by decide,Tryz.func178.trans (congrArg some (by kernel_rfl))⟩
 f24:=⟨Tryz.f179.name,by decide,Tryz.func179.trans (congrArg some (by kernel_rfl))⟩
 f25:=⟨Tryz.f180.name,by decide,Tryz.func180.trans (congrArg some (by kernel_rfl))⟩
 f26:=⟨Tryz.f181.name,by decide,Tryz.func181.trans (congrArg some (by kernel_rfl))⟩
 f27:=⟨Tryz.f182.name,by decide,Tryz.func182.trans (congrArg some (by kernel_rfl))⟩
 f28:=Tryz.func169.trans (congrArg some (by kernel_rfl))
 f29:=Tryz.func170.trans (congrArg some (by kernel_rfl))
 f46:=⟨Tryz.f203.name,by decide,Tryz.func203.trans (congrArg some (by kernel_rfl))⟩
 f47:=Tryz.func199.trans (congrArg some (by kernel_rfl))
 f48:=Tryz.func200.trans (congrArg some (by kernel_rfl))
 f49:=⟨Tryz.f204.name,by decide,Tryz.func204.trans (congrArg some (by kernel_rfl))⟩
 f50:=⟨Tryz.f205.name,by decide,Tryz.func205.trans (congrArg some (by kernel_rfl))⟩
 f57:=⟨Tryz.f220.name,by decide,Tryz.func220.trans (congrArg some (by kernel_rfl))⟩
 t0:=Tryz.underlying0
 a0:=Tryz.isAgg0
 z0:=Tryz.sizeOf0
 v0:=Tryz.zeroValue0
 t3:=Tryz.underlying3
 a3:=Tryz.isAgg3
 z3:=Tryz.sizeOf3
 v3:=Tryz.zeroValue3
 t4:=Tryz.underlying4
 a4:=Tryz.isAgg4
 z4:=Tryz.sizeOf4
 v4:=Tryz.zeroValue4
 t5:=Tryz.underlying5
 a5:=Tryz.isAgg5
 z5:=Tryz.sizeOf5
 v5:=Tryz.zeroValue5
 t9:=Tryz.underlying9
 a9:=Tryz.isAgg9
 z9:=Tryz.sizeOf9
 v9:=Tryz.zeroValue9
 t22:=Tryz.underlying61
 a22:=Tryz.isAgg61
 z22:=Tryz.sizeOf61
 v22:=Tryz.zeroValue61
 t25:=Tryz.underlying143
 a25:=Tryz.isAgg143
 z25:=Tryz.sizeOf143
 v25:=Tryz.zeroValue143
 t39:=Tryz.underlying133
 a39:=Tryz.isAgg133
 z39:=Tryz.sizeOf133
 v39:=Tryz.zeroValue133
 t45:=Tryz.underlying225
 a45:=Tryz.isAgg225
 z45:=Tryz.sizeOf225
 v45:=Tryz.zeroValue225
 t46:=Tryz.underlying226
 a46:=Tryz.isAgg226
 z46:=Tryz.sizeOf226
 v46:=Tryz.zeroValue226
 t50:=Tryz.underlying230
 a50:=Tryz.isAgg230
 z50:=Tryz.sizeOf230
 v50:=Tryz.zeroValue230
 t53:=Tryz.underlying233
 a53:=Tryz.isAgg233
 z53:=Tryz.sizeOf233
 v53:=Tryz.zeroValue233
 t55:=Tryz.underlying39
 a55:=Tryz.isAgg39
 z55:=Tryz.sizeOf39
 v55:=Tryz.zeroValue39
 t66:=Tryz.underlying257
 a66:=Tryz.isAgg257
 z66:=Tryz.sizeOf257
 v66:=Tryz.zeroValue257
 t70:=Tryz.underlying260
 a70:=Tryz.isAgg260
 z70:=Tryz.sizeOf260
 v70:=Tryz.zeroValue260
 t76:=Tryz.underlying288
 a76:=Tryz.isAgg288
 z76:=Tryz.sizeOf288
 v76:=Tryz.zeroValue288
 t77:=Tryz.underlying289
 a77:=Tryz.isAgg289
 z77:=Tryz.sizeOf289
 v77:=Tryz.zeroValue289 }
end Go.Proofs.YtaeocliklpcgmaaGreat
namespace Go.Proofs.YtaeocliklpcgmaaGreat
open Go.RowKit
structure aAn(B:Nat)(w w':World):Prop extends Below B w w' where
 dr:w.drawn≤w'.drawn
theorem aAn.refl(B:Nat)(w:World):aAn B w w:=⟨Below.refl B w,Nat.le_refl _⟩
theorem aAn.trans{B:Nat}{a b c:World}(h:aAn B a b)(k:aAn B b c):aAn B a c:=⟨h.toBelow.trans k.toBelow,Nat.le_trans h.dr k.dr⟩
theorem aAn.mono{B B':Nat}{w w':World}(h:aAn B w w')(hb:B'≤B):aAn B' w w':=⟨h.toBelow.mono hb,h.dr⟩
theorem aAn.alloc{B:Nat}{a w:World}(h:aAn B a w)(hb:B≤w.heap.size)(o:Obj):aAn B a (w.alloc o):=⟨h.toBelow.alloc hb o,h.dr⟩
theorem aAn.drew{B:Nat}{a w:World}(h:aAn B a w):aAn B a w.drew:=⟨h.toBelow.drew,Nat.le_trans h.dr (Nat.le_succ _)⟩
theorem aAn.setCell{B:Nat}{a w:World}(h:aAn B a w){p:Addr}(hp:B≤p.block)(u:Value):aAn B a (w.setCell p u):=⟨h.toBelow.setCell hp u,h.dr⟩
theorem aAn.grown{w w':World}(h:aAn w.heap.size w w'):∃q os',w'=Go.Sort.grow (w.drewN q) os':=by
 refine⟨w'.drawn - w.drawn,w'.heap.extract w.heap.size w'.heap.size,?_⟩;have hd:=h.dr
 have hh:w'.heap=w.heap++w'.heap.extract w.heap.size w'.heap.size:=by
  apply Array.ext_getElem?;intro i
  by_cases hi:i<w.heap.size
  ·rw[h.block i hi,Array.getElem?_append_left hi]
  rw[Array.getElem?_append_right (by omega),Array.getElem?_extract]
  by_cases hi2:i<w'.heap.size
  ·rw[if_pos (by simp;omega)];congr 1;omega
  rw[if_neg (by simp;omega),Array.getElem?_eq_none (by omega)]
 obtain⟨h0,h1,h2,h3,h4⟩:=w';obtain⟨g0,g1,g2,g3,g4⟩:=w;have e1:=h.os;have e2:=h.tape;have e3:=h.output;simp only at hh e1 e2 e3 hd;subst e1 e2 e3;simp only[Go.Sort.grow,World.drewN];rw[←hh];congr 1;omega
theorem aLg(a b:Int)(w:World)(ha:In64 a)(hb:In64 b)(h1:1≤a)(h2:1≤b):
  Calls Tryz.prog 173 #[.int .i64 a,.int .i64 b] w fun e w'=>e=.returned (.int .i64 (Int.gcd a b))∧aAn w.heap.size w w':=by
 have HA:=yH ha;have HB:=yH hb;clear ha hb;go_enter Tryz.func173,Tryz.ntmps173;go_wp2;refine wp_scope_jumps 0 (fun a' w'=>aAn w.heap.size w w'∧∃(x y:Int) (u2 u3 u4 u5 u6 u7 u8 u9 u10 u11:Value),a'={ tmps:=#[.int .i64 x,.int .i64 y,u2,u3,u4,u5,u6,u7,u8,u9,u10,u11],defers:=[] }∧1≤x∧0≤y∧x≤9223372036854775807∧y≤9223372036854775807∧Int.gcd x y=Int.gcd a b) (fun a' _=>(intOf (a'.tmps.getD 1 undef)).toNat) rfl ?_ ?_
 ·by_cases hb:b=0
  ·omega
  have hnb:(b==0)=false:=by simp;omega
  have HG:=yH (aK5 a b);have HLT:=yH (Int.emod_lt_of_pos a (show 0<b by omega));have HGE:=yH (Int.emod_nonneg a hb);go_wp2
  go_step3
  go_wp2
  go_region
  all_goals
   go_wp2
   go_step3
   exact⟨rfl,(aAn.refl _ _).drew,b,_,_,_,_,_,_,_,_,_,_,_,rfl,h2,HGE.out,HB.out.2,by have:=HLT.out;have:=HB.out.2;omega,HG.out⟩
 rintro a' w' ⟨bel,x,y,u2,u3,u4,u5,u6,u7,u8,u9,u10,u11,rfl,hx,hy,hx2,hy2,hg⟩;have HG:=yH hg;clear hg
 by_cases hb:y=0
 ·subst hb;have e:((Int.gcd x 0:Nat):Int)=x:=by rw[Int.gcd_zero_right];omega
  have hnn:((0:Int)==0)=true:=rfl;go_wp2;simp only[Exit.jump];go_ret;exact⟨by rw[←HG.out,e];rfl,bel⟩
 have hnb:(y==0)=false:=by simp;omega
 have HS:=yH (aK5 x y);have HLT:=yH (Int.emod_lt_of_pos x (show 0<y by omega));have HGE:=yH (Int.emod_nonneg x hb);go_wp2
 go_region
 all_goals
  go_wp2
  go_step3
  refine⟨rfl,⟨bel.drew,y,_,_,_,_,_,_,_,_,_,_,_,rfl,by omega,HGE.out,hy2,by have:=HLT.out;omega,by rw[HS.out];exact HG.out⟩,?_⟩;have:=HLT.out;have:=HGE.out;simp[intOf];omega
theorem of_arg_d(n d:Int)(w:World)(h:n<1∨d<1):
  Calls Tryz.prog 127 #[.int .i64 n,.int .i64 d] w fun e w'=>e=.returned (ofV n d)∧aAn w.heap.size w w':=by
 rw[ofV_arg h];have q2:Blk (w.alloc (.cells #[.int .i64 0,.int .i64 0] 46)) w.heap.size #[.int .i64 0,.int .i64 0] 46:=pAA _ _ _;have hlt:=q2.lt;clear q2;have hs:n<1∨(1≤n∧d<1):=by omega
 clear h;rcases hs with h1|⟨h1,h2⟩
 all_goals
  go_enter Tryz.func127,Tryz.ntmps127;go_wp2;refine bodyPost_ret (v:=.tuple #[.agg #[.int .i64 0,.int .i64 0],.int .i64 1]) (aAd rfl _ _ w.heap.size 46 #[.int .i64 0,.int .i64 0] _ _ rfl (pAA w #[.int .i64 0,.int .i64 0] 46).out Tryz.underlying46 rfl (by kernel_rfl) rfl) rfl ⟨rfl,?_⟩;exact((aAn.refl _ _).alloc yL _)
theorem of_two_d(n d g x y:Int)(w:World)(h1:1≤n)(h2:1≤d)(hn:In64 n)(hd:In64 d)(hg:(Int.gcd n d:Int)=g)(hx:n/g=x)(hy:d/g=y)(hx0:0≤x)(hy0:0≤y)(hxn:x≤n)(hyd:y≤d)(hg0:1≤g):
  Calls Tryz.prog 127 #[.int .i64 n,.int .i64 d] w fun e w'=>e=.returned (if 1099511627776<x∨1099511627776<y then .tuple #[.agg #[.int .i64 0,.int .i64 0],.int .i64 10]else .tuple #[.agg #[.int .i64 x,.int .i64 y],.int .i64 0])∧aAn w.heap.size w w':=by
 have c:=yH (fun w=>aLg n d w hn hd h1 h2);rw[hg]at c;have e1:Int.tdiv n g=x:=by rw[←hx];exact Int.tdiv_eq_ediv_of_nonneg (by omega)
 have e2:Int.tdiv d g=y:=by rw[←hy];exact Int.tdiv_eq_ediv_of_nonneg (by omega)
 have ew1:wrap64 x=x:=aCj x ⟨by omega,by have:=hn.2;omega⟩;have ew2:wrap64 y=y:=aCj y ⟨by omega,by have:=hd.2;omega⟩;have q2:Blk (w.alloc (.cells #[.int .i64 0,.int .i64 0] 46)) w.heap.size #[.int .i64 0,.int .i64 0] 46:=pAA _ _ _;have b0:aAn w.heap.size w (w.alloc (.cells #[.int .i64 0,.int .i64 0] 46)):=(aAn.refl _ _).alloc yL _;have Q2:=yH q2;have B0:=yH b0;have hs:1099511627776<x∨(x≤1099511627776∧1099511627776<y)∨(x≤1099511627776∧y≤1099511627776):=by omega
 clear q2 b0 hn hd;rcases hs with o1|⟨o1,o2⟩|⟨o1,o2⟩
 ·rw[if_pos (.inl o1)];go_enter Tryz.func127,Tryz.ntmps127;go_wp2_with fail;refine(c.out _).mono ?_;rintro e w1 ⟨rfl,bw⟩;have k1:=Q2.out.below bw.toBelow Q2.out.lt;have B1:=yH (B0.out.trans (bw.mono (by simp)));have d0:=k1.cell 0;have d1:=k1.cell 1;simp at d0 d1;have f1:=k1.frozen;have hz:=k1.lt;have K1:=yH k1;clear k1 bw;go_wp2
  go_region
  all_goals
   go_wp2;refine bodyPost_ret (v:=.tuple #[.agg #[.int .i64 0,.int .i64 0],.int .i64 10]) (aAd rfl _ _ w.heap.size 46 #[.int .i64 0,.int .i64 0] _ _ rfl (Blk.drew (((K1.out.set 0 (.int .i64 0)).set 1 (.int .i64 0)).alloc _)).out Tryz.underlying46 rfl (by kernel_rfl) rfl) rfl ⟨rfl,?_⟩
   first
   | exact((((B1.out.alloc B1.out.size _).drew).setCell yL _).setCell yL _)
   | exact((((B1.out.setCell yL _).setCell yL _).alloc (by simpa using B1.out.size) _).drew)
 ·rw[if_pos (.inr o2)];go_enter Tryz.func127,Tryz.ntmps127;go_wp2_with fail;refine(c.out _).mono ?_;rintro e w1 ⟨rfl,bw⟩;have k1:=Q2.out.below bw.toBelow Q2.out.lt;have B1:=yH (B0.out.trans (bw.mono (by simp)));have d0:=k1.cell 0;have d1:=k1.cell 1;simp at d0 d1;have f1:=k1.frozen;have hz:=k1.lt;have K1:=yH k1;clear k1 bw;go_wp2
  go_region
  all_goals
   go_wp2;refine bodyPost_ret (v:=.tuple #[.agg #[.int .i64 0,.int .i64 0],.int .i64 10]) (aAd rfl _ _ w.heap.size 46 #[.int .i64 0,.int .i64 0] _ _ rfl (Blk.drew (((K1.out.set 0 (.int .i64 0)).set 1 (.int .i64 0)).alloc _)).out Tryz.underlying46 rfl (by kernel_rfl) rfl) rfl ⟨rfl,?_⟩
   first
   | exact((((B1.out.alloc B1.out.size _).drew).setCell yL _).setCell yL _)
   | exact((((B1.out.setCell yL _).setCell yL _).alloc (by simpa using B1.out.size) _).drew)
 rw[if_neg (by omega)];go_enter Tryz.func127,Tryz.ntmps127;go_wp2_with fail;refine(c.out _).mono ?_;rintro e w1 ⟨rfl,bw⟩;have k1:=Q2.out.below bw.toBelow Q2.out.lt;have B1:=yH (B0.out.trans (bw.mono (by simp)));have d0:=k1.cell 0;have d1:=k1.cell 1;simp at d0 d1;have f1:=k1.frozen;have hz:=k1.lt;have K1:=yH k1;clear k1 bw;go_wp2
 go_region
 all_goals
  go_wp2;refine bodyPost_ret (v:=.tuple #[.agg #[.int .i64 x,.int .i64 y],.int .i64 0]) (aAd rfl _ _ w.heap.size 46 #[.int .i64 x,.int .i64 y] _ _ rfl (Blk.drew (((K1.out.set 0 (.int .i64 x)).set 1 (.int .i64 y)).alloc _)).out Tryz.underlying46 rfl (by kernel_rfl) rfl) rfl ⟨rfl,?_⟩
  first
  | exact((((B1.out.alloc B1.out.size _).drew).setCell yL _).setCell yL _)
  | exact((((B1.out.setCell yL _).setCell yL _).alloc (by simpa using B1.out.size) _).drew)
theorem of_rat_d(n d:Int)(w:World)(hn:In64 n)(hd:In64 d):
  Calls Tryz.prog 127 #[.int .i64 n,.int .i64 d] w fun e w'=>e=.returned (ofV n d)∧aAn w.heap.size w w':=by
 by_cases h:n<1∨d<1
 ·exact of_arg_d n d w h
 obtain⟨g0,x0,xn,y0,yd⟩:=gcd_bd (n:=n) (d:=d) (by omega) (by omega);have:=of_two_d n d _ _ _ w (by omega) (by omega) hn hd rfl rfl rfl x0 y0 xn yd g0;refine this.mono fun e w' ⟨he,hb⟩=>⟨?_,hb⟩
 rw[he]
 by_cases ho:1099511627776<n/Int.gcd n d∨1099511627776<d/Int.gcd n d
 ·rw[if_pos ho,ofV_over (by omega) (by omega) rfl ho]
 rw[if_neg ho,ofV_good (by omega) (by omega) rfl ho]
theorem aLh(n d:Int)(w:World)(hn:In64 n)(hd:In64 d):
  Calls Tryz.prog 70 #[.agg #[.int .i64 n,.int .i64 d]] w fun e w'=>e=.returned (.agg #[.int .i64 (alN n d),.int .i64 (alD n d)])∧aAn w.heap.size w w':=by
 have c:=yH (fun w=>of_rat_d n d w hn hd);unfold ofV at c
 have hs:(ofRN n d=n∧ofD n d=d∧alN n d=n∧alD n d=d)∨(ofRN n d≠n∧alN n d=0∧alD n d=0)∨(ofRN n d=n∧ofD n d≠d∧alN n d=0∧alD n d=0):=by
  unfold alN alD
  by_cases hm:MayN n d
  ·rw[(aF6 n d).2 hm];obtain⟨a,b⟩:=of_self hm;exact .inl ⟨a,b,rfl,rfl⟩
  have e:mayB n d=false:=by rw[Bool.eq_false_iff];exact fun h=>hm ((aF6 n d).1 h)
  rw[e];rcases of_not hm with⟨a,b,rfl,rfl⟩|h|h
  ·exact .inl ⟨a,b,rfl,rfl⟩
  ·exact .inr (.inl ⟨h,rfl,rfl⟩)
  by_cases h':ofRN n d=n
  ·exact .inr (.inr ⟨h',h,rfl,rfl⟩)
  exact .inr (.inl ⟨h',rfl,rfl⟩)
 generalize ofRN n d=x at *;generalize ofD n d=y at *;generalize ofE n d=z at *;have k1:Blk ((w.alloc (.cells #[.int .i64 n,.int .i64 d] 46)).alloc (.cells #[.int .i64 0,.int .i64 0] 46)) w.heap.size #[.int .i64 n,.int .i64 d] 46:=(pAA _ _ _).alloc _;have k2:Blk ((w.alloc (.cells #[.int .i64 n,.int .i64 d] 46)).alloc (.cells #[.int .i64 0,.int .i64 0] 46)) (w.heap.size+1) #[.int .i64 0,.int .i64 0] 46:=pAC _ _ _ (by simp);have b0:aAn w.heap.size w ((w.alloc (.cells #[.int .i64 n,.int .i64 d] 46)).alloc (.cells #[.int .i64 0,.int .i64 0] 46)):=((aAn.refl _ _).alloc yL _).alloc (by simp) _;have K1:=yH k1;have K2:=yH k2;have B0:=yH b0;clear k1 k2 b0 hn hd;rcases hs with⟨e1,e2,e3,e4⟩|⟨e1,e3,e4⟩|⟨e1,e2,e3,e4⟩
 ·rw[e3,e4];subst e1 e2;clear e3 e4;go_enter Tryz.func70,Tryz.ntmps70;go_wp2_with fail;refine(c.out _).mono ?_;rintro e w1 ⟨rfl,bw⟩;have q1:=K1.out.below bw.toBelow K1.out.lt;have q2:=K2.out.below bw.toBelow K2.out.lt;have B1:=yH (B0.out.trans (bw.mono (by simp;omega)));have d0:=q1.cell 0;have d1:=q1.cell 1;have e0:=q2.cell 0;have e1:=q2.cell 1;simp at d0 d1 e0 e1;have f2:=q2.frozen;have hz:=q1.lt;have hz2:=q2.lt;have Q1:=yH q1;have Q2:=yH q2;clear q1 q2 bw;go_wp2;refine bodyPost_ret (v:=.agg #[.int .i64 x,.int .i64 y]) (results_cell_row rfl _ _ (w.heap.size+1) 46 #[.int .i64 x,.int .i64 y] (0,0) _ rfl (((Q2.out.set 0 (.int .i64 x)).set 1 (.int .i64 y)).alloc _).out Tryz.underlying46 rfl (by kernel_rfl)) rfl ⟨by simp,?_⟩;exact(((B1.out.setCell (by simp) _).setCell (by simp) _).alloc (by simpa using B1.out.size) _)
 ·rw[e3,e4];have e5:(x==n)=false:=by simp[e1]
  clear e1 e3 e4;go_enter Tryz.func70,Tryz.ntmps70;go_wp2_with fail;refine(c.out _).mono ?_;rintro e w1 ⟨rfl,bw⟩;have q1:=K1.out.below bw.toBelow K1.out.lt;have q2:=K2.out.below bw.toBelow K2.out.lt;have B1:=yH (B0.out.trans (bw.mono (by simp;omega)));have d0:=q1.cell 0;have d1:=q1.cell 1;have e0:=q2.cell 0;have e1:=q2.cell 1;simp at d0 d1 e0 e1;have f2:=q2.frozen;have hz:=q1.lt;have hz2:=q2.lt;have Q1:=yH q1;have Q2:=yH q2;clear q1 q2 bw;go_wp2;refine bodyPost_ret (v:=.agg #[.int .i64 0,.int .i64 0]) (results_cell_row rfl _ _ (w.heap.size+1) 46 #[.int .i64 0,.int .i64 0] (0,0) _ rfl (((Q2.out.set 0 (.int .i64 0)).set 1 (.int .i64 0)).alloc _).out Tryz.underlying46 rfl (by kernel_rfl)) rfl ⟨by simp,?_⟩;exact(((B1.out.setCell (by simp) _).setCell (by simp) _).alloc (by simpa using B1.out.size) _)
 rw[e3,e4];subst e1;have e5:(y==d)=false:=by simp[e2]
 clear e2 e3 e4;go_enter Tryz.func70,Tryz.ntmps70;go_wp2_with fail;refine(c.out _).mono ?_;rintro e w1 ⟨rfl,bw⟩;have q1:=K1.out.below bw.toBelow K1.out.lt;have q2:=K2.out.below bw.toBelow K2.out.lt;have B1:=yH (B0.out.trans (bw.mono (by simp;omega)));have d0:=q1.cell 0;have d1:=q1.cell 1;have e0:=q2.cell 0;have e1:=q2.cell 1;simp at d0 d1 e0 e1;have f2:=q2.frozen;have hz:=q1.lt;have hz2:=q2.lt;have Q1:=yH q1;have Q2:=yH q2;clear q1 q2 bw;go_wp2;refine bodyPost_ret (v:=.agg #[.int .i64 0,.int .i64 0]) (results_cell_row rfl _ _ (w.heap.size+1) 46 #[.int .i64 0,.int .i64 0] (0,0) _ rfl (((Q2.out.set 0 (.int .i64 0)).set 1 (.int .i64 0)).alloc _).out Tryz.underlying46 rfl (by kernel_rfl)) rfl ⟨by simp,?_⟩;exact(((B1.out.setCell (by simp) _).setCell (by simp) _).alloc (by simpa using B1.out.size) _)
theorem aMv(n d:Int)(w:World)(hn:In64 n)(hd:In64 d):
  Calls Tryz.prog 67 #[.agg #[.int .i64 n,.int .i64 d]] w fun e w'=>e=.returned (.bool (mayB n d))∧aAn w.heap.size w w':=by
 have c:=yH (fun w=>aLh n d w hn hd);have B0:=yH ((aAn.refl w.heap.size w).alloc yL (.cells #[.int .i64 n,.int .i64 d] 46));clear hn hd;rcases aK6 n d with⟨hm,h1,h2,h3,h4,h5,h6⟩|⟨hm,h1,h2⟩
 ·rw[h1,h2]at c;rw[hm];have e1:(n==0)=false:=by simp;omega
  clear h1 h2 h4 h5 h6 h3;go_enter Tryz.func67,Tryz.ntmps67;go_wp2_with fail;refine(c.out _).mono ?_;rintro e w1 ⟨rfl,b1⟩;go_wp2_with fail;go_ret;exact⟨rfl,B0.out.trans (b1.mono (by simp))⟩
 rw[h1,h2]at c;rw[hm];clear h1 h2;go_enter Tryz.func67,Tryz.ntmps67;go_wp2_with fail;refine(c.out _).mono ?_;rintro e w1 ⟨rfl,b1⟩;go_wp2_with fail;go_ret;exact⟨rfl,B0.out.trans (b1.mono (by simp))⟩
theorem aLi(an ad bn bd:Int)(w:World)(h1:In64 an)(h2:In64 ad)(h3:In64 bn)(h4:In64 bd):
  Calls Tryz.prog 23 #[.agg #[.int .i64 an,.int .i64 ad],.agg #[.int .i64 bn,.int .i64 bd]] w fun e w'=>e=.returned (.int .i64 (cmpR an ad bn bd))∧aAn w.heap.size w w':=by
 have c1:=yH (fun w=>aMv an ad w h1 h2);have c2:=yH (fun w=>aMv bn bd w h3 h4);have k1:Blk ((w.alloc (.cells #[.int .i64 an,.int .i64 ad] 46)).alloc (.cells #[.int .i64 bn,.int .i64 bd] 46)) w.heap.size #[.int .i64 an,.int .i64 ad] 46:=(pAA _ _ _).alloc _;have k2:Blk ((w.alloc (.cells #[.int .i64 an,.int .i64 ad] 46)).alloc (.cells #[.int .i64 bn,.int .i64 bd] 46)) (w.heap.size+1) #[.int .i64 bn,.int .i64 bd] 46:=pAC _ _ _ (by simp);have b0:aAn w.heap.size w ((w.alloc (.cells #[.int .i64 an,.int .i64 ad] 46)).alloc (.cells #[.int .i64 bn,.int .i64 bd] 46)):=((aAn.refl _ _).alloc yL _).alloc (by simp) _;have K1:=yH k1;have K2:=yH k2;have B0:=yH b0;clear k1 k2 b0 h1 h2 h3 h4
 by_cases hm:mayB an ad=true
 ·by_cases hm2:mayB bn bd=true
  ·rw[show cmpR an ad bn bd=cmpI (an*bd) (bn*ad) by unfold cmpR;rw[if_pos ⟨hm,hm2⟩],←aMk];obtain⟨p1,p2,p3,p4,_⟩:=aCe hm;obtain⟨q1,q2,q3,q4,_⟩:=aCe hm2;rw[hm]at c1;rw[hm2]at c2;have u1:IntKind.u64.wrap an=an:=aHf _ ⟨by omega,by omega⟩;have u2:IntKind.u64.wrap ad=ad:=aHf _ ⟨by omega,by omega⟩;have u3:IntKind.u64.wrap bn=bn:=aHf _ ⟨by omega,by omega⟩;have u4:IntKind.u64.wrap bd=bd:=aHf _ ⟨by omega,by omega⟩;have cm1:=yH (fun w=>aDs an bd w ⟨by omega,by omega⟩ ⟨by omega,by omega⟩);have cm2:=yH (fun w=>aDs bn ad w ⟨by omega,by omega⟩ ⟨by omega,by omega⟩);have cc:=yH aF8;generalize an*bd=x at *;generalize bn*ad=y at *;clear hm hm2 p1 p2 p3 p4 q1 q2 q3 q4;go_enter Tryz.func23,Tryz.ntmps23;go_wp2_with fail;refine(c1.out _).mono ?_;rintro e w1 ⟨rfl,b1⟩;have B1:=yH (B0.out.trans (b1.mono (by simp;omega)));have r1:=K1.out.below b1.toBelow K1.out.lt;have r2:=K2.out.below b1.toBelow K2.out.lt;have d0:=r1.cell 0;have d1:=r1.cell 1;have e0:=r2.cell 0;have e1:=r2.cell 1;simp at d0 d1 e0 e1;have R1:=yH r1;have R2:=yH r2;clear r1 r2 b1;go_wp2_with fail;refine(c2.out _).mono ?_;rintro e w2 ⟨rfl,b2⟩;have B2:=yH (B1.out.trans (b2.mono B1.out.size));have r1:=R1.out.below b2.toBelow R1.out.lt;have r2:=R2.out.below b2.toBelow R2.out.lt;clear d0 d1 e0 e1;have d0:=r1.cell 0;have d1:=r1.cell 1;have e0:=r2.cell 0;have e1:=r2.cell 1;simp at d0 d1 e0 e1;clear r1 r2 b2;go_wp2_with fail;refine(cm1.out _).mono ?_;rintro e w2 ⟨rfl,rfl⟩;go_wp2_with fail;refine(cm2.out _).mono ?_;rintro e w2 ⟨rfl,rfl⟩;go_wp2_with fail;refine(cc.out _ _ _).mono ?_;rintro e w2 ⟨rfl,rfl⟩;go_wp2_with fail;refine(cc.out _ _ _).mono ?_;rintro e w2 ⟨rfl,rfl⟩;go_wp2_with fail;refine(or_two w2.heap.size _ (cmpI (x/18446744073709551616) (y/18446744073709551616)) (cmpI (x%18446744073709551616) (y%18446744073709551616)) _ (by simp) (by simp) (by simp)).mono ?_;rintro e w2 ⟨rfl,rfl⟩;go_wp2_with fail;go_ret;exact⟨rfl,B2.out.alloc B2.out.size _⟩
  rw[show cmpR an ad bn bd=0 by unfold cmpR;rw[if_neg (by simp[hm2])]];simp only[Bool.not_eq_true]at hm2;rw[hm]at c1;rw[hm2]at c2;clear hm hm2;go_enter Tryz.func23,Tryz.ntmps23;go_wp2_with fail;refine(c1.out _).mono ?_;rintro e w1 ⟨rfl,b1⟩;have B1:=yH (B0.out.trans (b1.mono (by simp;omega)));have r2:=K2.out.below b1.toBelow K2.out.lt;have e0:=r2.cell 0;have e1:=r2.cell 1;simp at e0 e1;clear r2 b1;go_wp2_with fail;refine(c2.out _).mono ?_;rintro e w2 ⟨rfl,b2⟩;go_wp2_with fail;go_ret;exact⟨rfl,B1.out.trans (b2.mono B1.out.size)⟩
 rw[show cmpR an ad bn bd=0 by unfold cmpR;rw[if_neg (by simp[hm])]];simp only[Bool.not_eq_true]at hm;rw[hm]at c1;clear hm;go_enter Tryz.func23,Tryz.ntmps23;go_wp2_with fail;refine(c1.out _).mono ?_;rintro e w1 ⟨rfl,b1⟩;go_wp2_with fail;go_ret;exact⟨rfl,B0.out.trans (b1.mono (by simp;omega))⟩
end Go.Proofs.YtaeocliklpcgmaaGreat
