/- Pieces of one proof. -/
import Derived.Test.YtaeocliklpcgmaaGreatP23
import Derived.Laws.EntriesVeiled
set_option linter.all false
set_option maxHeartbeats 64000000
set_option maxRecDepth 100000
namespace Go.Proofs.YtaeocliklpcgmaaGreat
open Go.RowKit
theorem pmayS_any(HMy:aE2){w:World}{base G M gb:Nat}{ps:List Int}{ls:List Ln}{l:List Of}{N:Int}{vb:Value}(hL:LedM w G M ps ls)(hI:LInv ps ls)(hP:PB w base gb l N vb)(hJ:BInv l N)
  (s tk pt want most:Int)(hs:0≤s∧s≤18446744073709551615)(ht:In8 tk)(hto:In8 pt)(hw:In64 want)(hmo:In64 most):
  Calls Tryz.prog 32 #[.agg #[.pointer (some ⟨G,0,none⟩),.pointer (some ⟨gb,0,none⟩)],.int .u64 s,.int .u8 tk,.int .u8 pt,.int .i64 want,.int .i64 most] w (yR w (.int .i64 (mayS ps ls l tk pt want most s))):=by
 obtain⟨m1,m2,g,_,_⟩:=aGr hI l s tk pt;rw[←aLx hI g];exact HMy hL hI hP hJ s tk pt want most m1 m2 hs ht hto hw hmo g
def PDoS(w:World)(base G M gb:Nat)(ps:List Int)(ls:List Ln)(l:List Of)(N:Int)(vb:Value)(s tk pt n:Int)(e:Ending)(w':World):Prop:=
 (¬okS ps ls l tk pt n s∧e=.returned (.tuple #[aF3,.int .i64 1])∧Below w.heap.size w w')∨
 (okS ps ls l tk pt n s∧∃o x vb',aBg l s=some o∧x=upN (n*o.nu) o.de∧e=.returned (.tuple #[.agg #[.int .u64 s,.int .u8 tk,.int .u8 pt,.int .i64 n,.int .i64 x],.int .i64 0])∧
  LedM w' G M ps (aCy ps ls o tk pt n x)∧PB w' base gb (aCh l s n) N vb'∧Keep (fun k=>k=G∨k=M∨Foot gb vb k) w w'∧aEt w vb vb')
theorem aOk(HD:aGq){w:World}{base G M gb:Nat}{ps:List Int}{ls:List Ln}{l:List Of}{N:Int}{vb:Value}(hL:LedM w G M ps ls)(hI:LInv ps ls)(hP:PB w base gb l N vb)(hJ:BInv l N)
  (s tk pt n:Int)(hs:0≤s∧s≤18446744073709551615)(ht:In8 tk)(hto:In8 pt)(hn:In64 n):
  Calls Tryz.prog 87 #[.agg #[.pointer (some ⟨G,0,none⟩),.pointer (some ⟨gb,0,none⟩)],.int .u64 s,.int .u8 tk,.int .u8 pt,.int .i64 n] w (PDoS w base G M gb ps ls l N vb s tk pt n):=by
 obtain⟨m1,m2,g,_,_⟩:=aGr hI l s tk pt;refine(HD hL hI hP hJ s tk pt n m1 m2 hs ht hto hn g).mono ?_;rintro e w' (⟨a,b,c⟩|⟨a,o,x,ls',vb',b,c,d,f,h1,h2,h3,h4⟩)
 ·exact .inl ⟨fun q=>a ((aJe hI g).2 q),b,c⟩
 rw[d.eq (aG6 hI o tk pt n x)]at h1;exact .inr ⟨(aJe hI g).1 a,o,x,vb',b,c,f,h1,h2,h3,h4⟩
theorem rmayS_any{w:World}{bl bb rl rb:Nat}{ps:List Int}{ls:List Ln}{l:List Of}{N:Int}{vp vl vb:Value}(hR:RefL w bl rl ps ls vp vl)(hI:LInv ps ls)(hB:RefB w bb rb l N vb)(hJ:BInv l N)
  (s tk pt want most:Int)(ht:In8 tk)(hto:In8 pt)(hw:In64 want)(hmo:In64 most):
  Calls Tryz.prog 108 #[.agg #[.pointer (some ⟨rl,0,none⟩),.pointer (some ⟨rb,0,none⟩)],.int .u64 s,.int .u8 tk,.int .u8 pt,.int .i64 want,.int .i64 most] w (yR w (.int .i64 (mayS ps ls l tk pt want most s))):=by
 obtain⟨m1,m2,g,_,_⟩:=aGr hI l s tk pt;rw[←aLx hI g];exact aM6 hR hI hB hJ s tk pt want most m1 m2 ht hto hw hmo g
def RDoS(w:World)(bl bb rl rb:Nat)(ps:List Int)(ls:List Ln)(l:List Of)(N:Int)(vp:Value)(s tk pt n:Int)(e:Ending)(w':World):Prop:=
 (¬okS ps ls l tk pt n s∧e=.returned (.tuple #[aF3,.int .i64 1])∧Below w.heap.size w w')∨
 (okS ps ls l tk pt n s∧∃o x vl' vb',aBg l s=some o∧x=upN (n*o.nu) o.de∧e=.returned (.tuple #[.agg #[.int .u64 s,.int .u8 tk,.int .u8 pt,.int .i64 n,.int .i64 x],.int .i64 0])∧
  RefL w' bl rl ps (aCy ps ls o tk pt n x) vp vl'∧RefB w' bb rb (aCh l s n) N vb'∧Keep (fun k=>k=rl∨k=rb) w w')
theorem rdoS_any{w:World}{bl bb rl rb:Nat}{ps:List Int}{ls:List Ln}{l:List Of}{N:Int}{vp vl vb:Value}(hR:RefL w bl rl ps ls vp vl)(hI:LInv ps ls)(hB:RefB w bb rb l N vb)(hJ:BInv l N)
  (s tk pt n:Int)(ht:In8 tk)(hto:In8 pt)(hn:In64 n):
  Calls Tryz.prog 52 #[.agg #[.pointer (some ⟨rl,0,none⟩),.pointer (some ⟨rb,0,none⟩)],.int .u64 s,.int .u8 tk,.int .u8 pt,.int .i64 n] w (RDoS w bl bb rl rb ps ls l N vp s tk pt n):=by
 obtain⟨m1,m2,g,_,_⟩:=aGr hI l s tk pt;refine(rdo10_any hR hI hB hJ s tk pt n m1 m2 ht hto hn g).mono ?_;rintro e w' (⟨a,b,c⟩|⟨a,o,x,ls',vl',vb',b,c,d,f,h1,h2,h3⟩)
 ·exact .inl ⟨fun q=>a ((aJe hI g).2 q),b,c⟩
 rw[d.eq (aG6 hI o tk pt n x)]at h1;exact .inr ⟨(aJe hI g).1 a,o,x,vl',vb',b,c,f,h1,h2,h3⟩
theorem own_cell11{w:World}{base n cap:Nat}{ao:Option Addr}{os:List Of}(h:w.ownsRow base 48 7 (.slice ao n cap) n (aAa os)){k:Nat}(hk:k<os.length):
  ∃b,ao=some ⟨b,0,none⟩∧∀w',Below w.heap.size w w'→b<w'.heap.size∧w'.cell? ⟨b,k*7,none⟩=some (.int .u64 os[k].se):=by
 obtain⟨hl,h2⟩:=h;rcases h2 with⟨h2,h3⟩|⟨g,cap',cur,hv,hge,hg,hnc,hcm,hsz,htk⟩
 ·have:=hl;rw[h3]at this;have hz:(aAa os).length=os.length*7:=aAn os;omega
 cases hv
 have hB:Blk w g cur 48:=hg;refine⟨g,rfl,fun w' k'=>⟨(hB.below k' hB.lt).lt,?_⟩⟩;rw[(hB.below k' hB.lt).cell];have e:=aAm os k 0 (by omega) hk;rw[←htk,List.getElem?_take_of_lt (by have hz:(aAa os).length=os.length*7:=aAn os;omega)]at e;rw[Array.getElem?_toList]at e;simpa [Of.vals]using e
def FlbAt(W:World)(ps:List Int)(ls:List Ln)(l:List Of)(tk pt want most:Int)(os:List Of)(i:Value)(wr:World):Prop:=
 ∃k:Nat,k≤os.length∧i=.int .i64 k∧Below W.heap.size W wr∧Hid (aBc ps ls l tk pt want most os=aBc ps ls l tk pt want most (os.drop k))
theorem aQg{w:World}{bl bb rl rb base:Nat}{ps:List Int}{ls:List Ln}{l os:List Of}{N:Int}{vp vl vb v:Value}(hR:RefL w bl rl ps ls vp vl)(hI:LInv ps ls)(hB:RefB w bb rb l N vb)(hJ:BInv l N)
  (hv:w.ownsRow base 48 7 v os.length (aAa os))(tk pt want most:Int)(ht:In8 tk)(hto:In8 pt)(hw:In64 want)(hmo:In64 most):
  Calls Tryz.prog 50 #[.agg #[.pointer (some ⟨rl,0,none⟩),.pointer (some ⟨rb,0,none⟩)],v,.int .u8 tk,.int .u8 pt,.int .i64 want,.int .i64 most] w (yR w (.tuple #[.int .u64 ((aBc ps ls l tk pt want most os).getD (0,0)).1,.int .i64 ((aBc ps ls l tk pt want most os).getD (0,0)).2])):=by
 obtain⟨ao,cap,rfl,hc1,hc2,hc3,hc4⟩:=aAd hv;have bw:=(Below.refl w.heap.size w).alloc yL (.cells #[.pointer (some ⟨rl,0,none⟩),.pointer (some ⟨rb,0,none⟩)] 36);have KX:=yH (pAA w #[.pointer (some ⟨rl,0,none⟩),.pointer (some ⟨rb,0,none⟩)] 36);have HV:=yH (aAc hv bw);have B0:=yH bw;have CMa:=yH (fun s w' (k:Below (w.alloc (.cells #[.pointer (some ⟨rl,0,none⟩),.pointer (some ⟨rb,0,none⟩)] 36)).heap.size (w.alloc (.cells #[.pointer (some ⟨rl,0,none⟩),.pointer (some ⟨rb,0,none⟩)] 36)) w')=>rmayS_any ((hR.below bw).below k) hI ((hB.below bw).below k) hJ s tk pt want most ht hto hw hmo);obtain⟨R,hRR⟩:∃R,(aBc ps ls l tk pt want most os).getD (0,0)=R:=⟨_,rfl⟩;rw[hRR];have HRR:=yH hRR;unfold maxLen at hc2;have HCC:=yH hc4;clear bw hR hI hB hJ hv ht hto hw hmo hRR hc3 hc4;go_enter Tryz.func50,Tryz.ntmps50;go_wp2_with fail;generalize w.alloc (.cells #[.pointer (some ⟨rl,0,none⟩),.pointer (some ⟨rb,0,none⟩)] 36)=W at *
 go_loopw [14,15] (fun i _ wr=>FlbAt W ps ls l tk pt want most os i wr) (fun i _ _=>os.length - (intOf i).toNat)
 case atStart=>exact⟨0,by omega,rfl,yZ,yH rfl⟩
 obtain⟨k,hk,rfl,hb,HE⟩:=hrel
 by_cases hkl:k<os.length
 ·have hki:(k:Int)<(os.length:Int):=by omega
  have hk0:(0:Int)≤(k:Int):=by omega
  obtain⟨s,hs⟩:∃s,os[k].se=s:=⟨_,rfl⟩
  obtain⟨b,hbb,HC⟩:∃b,ao=some ⟨b,0,none⟩∧Hid (∀w',Below wr.heap.size wr w'→b<w'.heap.size∧w'.cell? ⟨b,k*7,none⟩=some (.int .u64 s)):=by
   obtain⟨b,h1,h2⟩:=own_cell11 HV.out hkl;refine⟨b,h1,yH fun w' h=>?_⟩;have:=h2 w' (andB hb h);rw[hs]at this;exact this
  subst hbb;have KX:=yB KX hb;have BB:=yH hb;have CM:=yH (fun w' (h:Below wr.heap.size wr w')=>CMa.out s w' (andB hb h));obtain⟨n,hn⟩:∃n,mayS ps ls l tk pt want most s=n:=⟨_,rfl⟩;rw[hn]at CM
  have HD:Hid (aBc ps ls l tk pt want most (os.drop k)=if 0<n then some (s,n)else aBc ps ls l tk pt want most (os.drop (k+1))):=yH (by
   rw[List.drop_eq_getElem_cons hkl];show(if 0<mayS ps ls l tk pt want most os[k].se then some (os[k].se,mayS ps ls l tk pt want most os[k].se)else _)=_;rw[hs,hn])
  have HK:=yH hkl;clear hb hs hn hkl;go_wp2_with fail
  refine aA3 (by kernel_rfl) [(.agg #[.pointer (some ⟨rl,0,none⟩),.pointer (some ⟨rb,0,none⟩)]),(.slice (some ⟨b,0,none⟩) os.length cap),(.int .i64 k),(.pointer (some ⟨b,k*7,none⟩)),(.pointer (some ⟨b,k*7,none⟩)),(.int .u64 s),(.int .u8 tk),(.int .u8 pt),(.int .i64 want),(.int .i64 most),(.int .i64 n),(.int .i64 n)]
   (fun w'=>Below wr.heap.size wr w') (by kernel_rfl) yZ.drew ?_
  intro af haf;simp only[yG,List.append_eq,List.cons_append,List.nil_append,puts,Act.put,yA,yC,yF,yD,yE]at haf;subst haf;refine⟨?_,?_⟩
  ·simp only[yG,List.append_eq,List.cons_append,List.nil_append,aBe];refine⟨?_,?z1,?z2,?z8,?z9,?z10,?z3,?z4,?z5,?z6,?_,?z7,trivial⟩
   case z1|z2|z3|z4|z5|z6|z7=>
    intro w' hS;refine yO rfl ?_;have HS:=yH hS;clear hS;go_wp2_with fail;all_goals first|exact HS|exact⟨rfl,HS⟩|rfl|exact⟨by omega,HS.out⟩
   case z8|z9|z10=>
    intro w' hS;refine yO rfl ?_;obtain⟨hl0,c0⟩:=HC.out w' hS;have HS:=yH hS;clear hS;go_wp2_with fail;all_goals first|exact HS|exact⟨rfl,HS⟩|rfl|exact⟨by omega,HS.out⟩
   ·intro w' hS;refine yO rfl ?_;have d0_0:=(KX.out.below hS KX.out.lt).cell 0;have d0_1:=(KX.out.below hS KX.out.lt).cell 1;simp at d0_0 d0_1;have HS:=yH hS;clear hS;go_wp2_with fail;all_goals first|exact HS|exact⟨rfl,HS⟩|rfl|exact⟨by omega,HS.out⟩
   intro w' hS;refine yO rfl ?_;have HS:=yH hS;clear hS;go_wp2_with fail;refine(CM.out w' HS.out).mono ?_;rintro e w'' ⟨rfl,hb2⟩;exact⟨rfl,andB HS.out hb2⟩
  intro w' hS;have BB2:=yT BB hS;obtain⟨hl0,c0⟩:=HC.out w' hS;clear hS
  by_cases hp:0<n
  ·have q1:decide (0<n)=true:=by simpa using hp
   have HP:=yH hp;clear hp;go_wp2_with fail;go_ret2;refine⟨?_,B0.out.trans (BB2.out.mono B0.out.size)⟩;rw[←HRR.out,HE.out,HD.out,if_pos HP.out];rfl
  have q1:decide (0<n)=false:=by simpa using hp
  have HP:=yH hp;clear hp;go_wp2_with fail;exact⟨⟨k+1,by have:=HK.out;omega,by go_num,BB2.out,yH (by rw[HE.out,HD.out];exact if_neg (by have:=HP.out;omega))⟩,by simp[intOf];have:=HK.out;omega⟩
 have hkn:k=os.length:=by omega
 subst hkn;have BB:=yH hb;clear hb;go_wp2_with fail;go_ret2;refine⟨?_,B0.out.trans (BB.out.mono B0.out.size)⟩;rw[←HRR.out,HE.out,List.drop_length];rfl
theorem aAv{P:Program}{fn:Func}{p u x y:Tmp}{ty:TypeId}(h:fn.results=#[.cell p ty,.tmp u,.tmp x,.tmp y])(tmps:Array Value)(w:World)(g:Nat)(t:TypeId)(cs:Array Value)(d:TypeDesc)(v v2 v3:Value)
  (hp:tmps.getD p undef=.pointer (some ⟨g,0,none⟩))(hg:w.heap[g]? = some (.cells cs t (0,0)))
  (hu:P.underlying ty=some d)(hd:(match d with | .struct _ | .array _ _=>true|_=>false)=true)(hi:(P.info? ty).map (·.size)=some cs.size)(hv:tmps.getD u undef=v)(hv2:tmps.getD x undef=v2)(hv3:tmps.getD y undef=v3):
  (results fn tmps).run P w=.ok (.tuple #[.agg cs,v,v2,v3]) w:=by
 have h1:=results_cell_row (P:=P) (fn:={ fn with results:=#[.cell p ty] }) rfl tmps w g t cs (0,0) d hp hg hu hd hi
 have h2:((asAddr (tmps.getD p undef)).run P w).andThen (fun a w₁=>(loadVar ty a).run P w₁)=.ok (.agg cs) w:=by
  simpa [results,Sem.run_bind,Result.andThen]using h1
 have h3:(results fn tmps).run P w=((asAddr (tmps.getD p undef)).run P w).andThen fun a w₁=>((loadVar ty a).run P w₁).andThen fun v w₂=>.ok (.tuple #[v,tmps.getD u undef,tmps.getD x undef,tmps.getD y undef]) w₂:=by
  simp only[results,h];simp[Sem.run_bind,Result.andThen]
 rw[h3];rw[hp]at h2 ⊢;simp only[asAddr,Sem.run_pure,Result.andThen_ok]at h2 ⊢;rw[h2];simp only[Result.andThen_ok,hv,hv2,hv3]
theorem aFl{P:Program}(w:World){ops:Array Oper}{rest:List Oper}{o:Oper}{a:Act}{Q:Exit→Act→World→Prop}(hgd:o.guard=none)(s x:Operand)(t e:TypeId)
  (ho:o.op=.call { callee:=.builtin .append,args:=#[s,x],argTypes:=#[t,t] }){z:Value}{sz by':Nat}(ht:P.underlying t=some (.slice e))(hinf:(P.info? e).map (fun i=>(i.zero,i.size,i.bytes))=some (some z,sz,by'))(hzs:z.cells.size=sz)(h0:0<sz)(hby:by'≤1000)
  (base:Nat)(v:Value)(n:Nat)(xs:List Value)(hs:a.eval s=v)(hown:w.ownsRow base e sz v n xs)(g c:Nat)(vs:List Value)(hvs:vs.length=sz)(hx:a.eval x=.slice (some ⟨g,0,none⟩) 1 c)(hy:Blk w g vs.toArray e)(h1:∀u∈vs,u.oneCell'=true)(hlen:n≤100000)(hbase:base≤w.heap.size)
  (h:∀v' w',w'.ownsRow base e sz v' (n+1) (xs++vs)→w.grownBy w' v.ownBlock→wpList P ops Q rest (a.put o.dst v') w'):wpList P ops Q (o::rest) a w:=by
 obtain⟨i0,hi,hz0,hz1,hz2⟩:=info_parts hinf;refine wpList_append_own w hgd s x t ho base e i0 z sz by' ht hi hz0 hz1 hz2 hzs h0 v n xs hs hown ⟨g,0,none⟩ 1 c vs hx (by rw[hvs];omega) ?_ h1 (by unfold maxLen;omega) ?_ hbase ?_
 ·intro j u hj;rw[Go.WideShapes.add_plain,Nat.zero_add,hy.cell j];simpa using hj
 ·refine Nat.le_trans (Nat.mul_le_mul_left _ hby) ?_;omega
 intro v' w' h2 h3 _;exact h v' w' h2 h3
def signed(neg:Bool)(x:Nat):Int:=if neg then -(x:Int)else x
def Fl.vals(tk pt:Int)(f:Fl):List Value:=[.int .u64 f.se,.int .u8 tk,.int .u8 pt,.int .i64 f.got,.int .i64 f.gi]
def aCm(tk pt:Int)(fs:List Fl):List Value:=fs.flatMap (Fl.vals tk pt)
theorem aL0(tk pt:Int)(fs:List Fl):(aCm tk pt fs).length=fs.length*5:=aJ5 _ 5 (fun _=>rfl) fs
theorem aL1(tk pt:Int)(fs:List Fl)(i j:Nat)(hj:j<5)(h:i<fs.length):(aCm tk pt fs)[i*5+j]? = (fs[i].vals tk pt)[j]? := by
 unfold aCm;rw[aH3 _ 5 (fun _=>rfl) fs i j hj,List.getElem?_eq_getElem h];rfl
theorem aJw(tk pt:Int)(fs:List Fl)(f:Fl):aCm tk pt (fs++[f])=aCm tk pt fs++f.vals tk pt:=by
 unfold aCm;rw[List.flatMap_append];simp
theorem own_cell5{w:World}{base n cap:Nat}{ao:Option Addr}{e:TypeId}{tk pt:Int}{fs:List Fl}(h:w.ownsRow base e 5 (.slice ao n cap) n (aCm tk pt fs)){k:Nat}(hk:k<fs.length):
  ∃b,ao=some ⟨b,0,none⟩∧∀w',Below w.heap.size w w'→b<w'.heap.size∧∀j,j<5→w'.cell? ⟨b,k*5+j,none⟩=(fs[k].vals tk pt)[j]? := by
 obtain⟨hl,h2⟩:=h;have hz:=aL0 tk pt fs;rcases h2 with⟨h2,h3⟩|⟨g,cap',cur,hv,hge,hg,hnc,hcm,hsz,htk⟩
 ·have:=hl;rw[h3]at this;omega
 cases hv
 have hB:Blk w g cur e:=hg;refine⟨g,rfl,fun w' k'=>⟨(hB.below k' hB.lt).lt,fun j hj=>?_⟩⟩;rw[(hB.below k' hB.lt).cell];have e:=aL1 tk pt fs k j hj hk;rw[←htk,List.getElem?_take_of_lt (by omega)]at e;rw[Array.getElem?_toList]at e;exact e
theorem info_fl12:(Tryz.prog.info? 109).map (fun i=>(i.zero,i.size,i.bytes))=some (some (.agg #[.int .u64 0,.int .u8 0,.int .u8 0,.int .i64 0,.int .i64 0]),5,32):=by kernel_rfl
def PlcAt(W:World)(bl bb cl cb:Nat)(ps:List Int)(ls0:List Ln)(l0:List Of)(N ow sl bu nu de n0:Int)(nv av:Value)(wr:World):Prop:=
 ∃(σ:SwS) (vp vl vb:Value),nv=.int .i64 σ.n∧RefL wr bl cl ps σ.ls vp vl∧RefB wr bb cb σ.l N vb∧wr.ownsRow W.heap.size 109 5 av σ.fs.length (aCm ow ow σ.fs)∧aE6 ps ls0 l0 N ow sl bu nu de n0 σ∧
  Keep (fun k=>k=cl∨k=cb) W wr∧Hid (aBl ps ow sl bu nu de 64 ⟨ls0,l0,[],n0⟩=aBl ps ow sl bu nu de (64 - σ.fs.length) σ)
def RPlace(w:World)(bl bb:Nat)(ps:List Int)(ls:List Ln)(l:List Of)(N:Int)(x:Of)(e:Ending)(w':World):Prop:=
 (∃er:Int,er≠0∧(aB0 ps ls l N x.ow x.sl x.bu x.lf x.nu x.de).1=er∧e=.returned (.tuple #[.agg #[.pointer none,.pointer none],.slice none 0 0,.int .u64 0,.int .i64 er])∧Below w.heap.size w w')∨
 (∃cl cb vp vl vb v σ N' sq,aB0 ps ls l N x.ow x.sl x.bu x.lf x.nu x.de=(0,σ,N',sq)∧e=.returned (.tuple #[.agg #[.pointer (some ⟨cl,0,none⟩),.pointer (some ⟨cb,0,none⟩)],v,.int .u64 sq,.int .i64 0])∧RefL w' bl cl ps σ.ls vp vl∧RefB w' bb cb σ.l N' vb∧
  w'.ownsRow w.heap.size 109 5 v σ.fs.length (aCm x.ow x.ow σ.fs)∧w.heap.size≤cl∧w.heap.size≤cb∧Below w.heap.size w w')
theorem aQh{w:World}{bl bb rl rb:Nat}{ps:List Int}{ls:List Ln}{l:List Of}{N:Int}{vp vl vb:Value}(hR:RefL w bl rl ps ls vp vl)(hI:LInv ps ls)(hB:RefB w bb rb l N vb)(hJ:BInv l N)
  (x:Of)(hf:In8 x.ow)(hn:In64 x.lf)(hps:ps.length≤1000):
  Calls Tryz.prog 12 #[.agg #[.pointer (some ⟨rl,0,none⟩),.pointer (some ⟨rb,0,none⟩)],.agg #[.int .u64 x.se,.int .u8 x.ow,.int .u8 x.sl,.int .u8 x.bu,.int .i64 x.lf,.int .i64 x.nu,.int .i64 x.de]] w (RPlace w bl bb ps ls l N x):=by
 have b1:=(Below.refl w.heap.size w).alloc yL (.cells #[.pointer (some ⟨rl,0,none⟩),.pointer (some ⟨rb,0,none⟩)] 36);have b2:=b1.alloc b1.size (.cells #[.int .u64 x.se,.int .u8 x.ow,.int .u8 x.sl,.int .u8 x.bu,.int .i64 x.lf,.int .i64 x.nu,.int .i64 x.de] 48);have b3:=b2.alloc b2.size (.cells #[.pointer none,.pointer none] 36);have b4:=b3.alloc b3.size (.cells #[.pointer none,.pointer none] 36);have KX:=yH ((((pAA w #[.pointer (some ⟨rl,0,none⟩),.pointer (some ⟨rb,0,none⟩)] 36).alloc (.cells #[.int .u64 x.se,.int .u8 x.ow,.int .u8 x.sl,.int .u8 x.bu,.int .i64 x.lf,.int .i64 x.nu,.int .i64 x.de] 48)).alloc (.cells #[.pointer none,.pointer none] 36)).alloc (.cells #[.pointer none,.pointer none] 36));have KO:=yH (((pAC (w.alloc (.cells #[.pointer (some ⟨rl,0,none⟩),.pointer (some ⟨rb,0,none⟩)] 36)) #[.int .u64 x.se,.int .u8 x.ow,.int .u8 x.sl,.int .u8 x.bu,.int .i64 x.lf,.int .i64 x.nu,.int .i64 x.de] 48 (g:=w.heap.size+1) (by simp)).alloc (.cells #[.pointer none,.pointer none] 36)).alloc (.cells #[.pointer none,.pointer none] 36));have KZ:=yH ((pAC ((w.alloc (.cells #[.pointer (some ⟨rl,0,none⟩),.pointer (some ⟨rb,0,none⟩)] 36)).alloc (.cells #[.int .u64 x.se,.int .u8 x.ow,.int .u8 x.sl,.int .u8 x.bu,.int .i64 x.lf,.int .i64 x.nu,.int .i64 x.de] 48)) #[.pointer none,.pointer none] 36 (g:=w.heap.size+2) (by simp)).alloc (.cells #[.pointer none,.pointer none] 36));have KN:=yH (pAC (((w.alloc (.cells #[.pointer (some ⟨rl,0,none⟩),.pointer (some ⟨rb,0,none⟩)] 36)).alloc (.cells #[.int .u64 x.se,.int .u8 x.ow,.int .u8 x.sl,.int .u8 x.bu,.int .i64 x.lf,.int .i64 x.nu,.int .i64 x.de] 48)).alloc (.cells #[.pointer none,.pointer none] 36)) #[.pointer none,.pointer none] 36 (g:=w.heap.size+3) (by simp));have HR:=yH (hR.below b4);have HB:=yH (hB.below b4);have B4:=yH b4;have HWS:Hid (((((w.alloc (.cells #[.pointer (some ⟨rl,0,none⟩),.pointer (some ⟨rb,0,none⟩)] 36)).alloc (.cells #[.int .u64 x.se,.int .u8 x.ow,.int .u8 x.sl,.int .u8 x.bu,.int .i64 x.lf,.int .i64 x.nu,.int .i64 x.de] 48)).alloc (.cells #[.pointer none,.pointer none] 36)).alloc (.cells #[.pointer none,.pointer none] 36)).heap.size=w.heap.size+4):=yH (by simp);have II:=yH hI;have JJ:=yH hJ;have HF:=yH hf;have HN:=yH hn;have CM:=yH (fun w=>omay_any x w);clear b1 b2 b3 b4 hR hB hI hJ hf hn;go_enter Tryz.func12,Tryz.ntmps12
 go_upto_region 2 with fail
 generalize ((((w.alloc (.cells #[.pointer (some ⟨rl,0,none⟩),.pointer (some ⟨rb,0,none⟩)] 36)).alloc (.cells #[.int .u64 x.se,.int .u8 x.ow,.int .u8 x.sl,.int .u8 x.bu,.int .i64 x.lf,.int .i64 x.nu,.int .i64 x.de] 48)).alloc (.cells #[.pointer none,.pointer none] 36)).alloc (.cells #[.pointer none,.pointer none] 36))=W at *;have o0:=KO.out.cell 0;have o1:=KO.out.cell 1;have o2:=KO.out.cell 2;have o3:=KO.out.cell 3;have o4:=KO.out.cell 4;have o5:=KO.out.cell 5;have o6:=KO.out.cell 6;have ol:=KO.out.lt;simp at o0 o1 o2 o3 o4 o5 o6
 by_cases hm:x.may
 rotate_left
 ·rw[decide_eq_false hm]at CM;have NO:Hid ((aB0 ps ls l N x.ow x.sl x.bu x.lf x.nu x.de).1=1):=yH (by unfold aB0;rw[if_pos (show ¬(Of.mk 0 x.ow x.sl x.bu x.lf x.nu x.de).may from hm)]);clear hm;go_wp2_with fail;refine(CM.out W).mono ?_;rintro e w1 ⟨rfl,b1⟩;have KZ1:=yB KZ b1;have KN1:=yB KN b1;have B1:=yT B4 b1;clear b1;have z0:=KN1.out.cell 0;have z1:=KN1.out.cell 1;have zl:=KN1.out.lt;simp at z0 z1;go_wp2_with (refine aAb rfl 36 (.tmp 4) (.tmp 22) rfl (w.heap.size+2) #[.pointer none,.pointer none] rfl rfl 36 _ KZ1.out.out (by kernel_rfl) rfl (by simp[Value.oneCell']) ?_);refine bodyPost_ret (v:=.tuple #[.agg #[.pointer none,.pointer none],.slice none 0 0,.int .u64 0,.int .i64 1]) (aAv rfl _ _ (w.heap.size+2) 36 #[.pointer none,.pointer none] _ _ _ _ rfl (setRow_heap _ (w.heap.size+2) _ _ _ (0,0) KZ1.out.out) Tryz.underlying36 rfl (by kernel_rfl) rfl rfl rfl) rfl ?_;exact .inl ⟨1,by decide,NO.out,rfl,below_setRow B1.out (by omega) _⟩
 rw[decide_eq_true hm]at CM;have MAY:=yH hm;clear hm;go_wp2_with fail;refine(CM.out W).mono ?_;rintro e w1 ⟨rfl,b1⟩;have KX1:=yB KX b1;have KO1:=yB KO b1;have KZ1:=yB KZ b1;have KN1:=yB KN b1;have HR1:=yH (HR.out.below b1);have HB1:=yH (HB.out.below b1);have B1:=yT B4 b1;have HWZ:Hid (w.heap.size+4≤w1.heap.size):=yH (by have:=HWS.out;have:=b1.size;omega);clear b1 o0 o1 o2 o3 o4 o5 o6 ol KX KO KZ KN HR HB B4 CM HWS;have CF:=yH (aC1 HR1.out x.ow);have x0:=KX1.out.cell 0;have x1:=KX1.out.cell 1;have xl:=KX1.out.lt;have o1:=KO1.out.cell 1;have ol:=KO1.out.lt;simp at x0 x1 o1
 by_cases hfp:x.ow∉ps
 ·have NO:Hid ((aB0 ps ls l N x.ow x.sl x.bu x.lf x.nu x.de).1=7):=yH (by unfold aB0;rw[if_neg (fun h=>h MAY.out),if_pos hfp]);rw[decide_eq_false hfp]at CF;clear hfp;go_wp2_with fail;refine CF.out.mono ?_;rintro e w2 ⟨rfl,rfl⟩;have z0:=KN1.out.cell 0;have z1:=KN1.out.cell 1;have zl:=KN1.out.lt;simp at z0 z1;go_wp2_with (refine aAb rfl 36 (.tmp 4) (.tmp 29) rfl (w.heap.size+2) #[.pointer none,.pointer none] rfl rfl 36 _ KZ1.out.out (by kernel_rfl) rfl (by simp[Value.oneCell']) ?_);refine bodyPost_ret (v:=.tuple #[.agg #[.pointer none,.pointer none],.slice none 0 0,.int .u64 0,.int .i64 7]) (aAv rfl _ _ (w.heap.size+2) 36 #[.pointer none,.pointer none] _ _ _ _ rfl (setRow_heap _ (w.heap.size+2) _ _ _ (0,0) KZ1.out.out) Tryz.underlying36 rfl (by kernel_rfl) rfl rfl rfl) rfl ?_;exact .inl ⟨7,by decide,NO.out,rfl,below_setRow B1.out (by omega) _⟩
 have hfp:=Decidable.not_not.1 hfp;rw[decide_eq_true hfp]at CF;have OK:Hid (aB0 ps ls l N x.ow x.sl x.bu x.lf x.nu x.de=aDb N x.ow x.sl x.bu x.nu x.de (aBl ps x.ow x.sl x.bu x.nu x.de 64 ⟨ls,l,[],x.lf⟩)):=yH (by unfold aB0;rw[if_neg (fun h=>h MAY.out),if_neg (fun h=>h hfp)]);have CCp:=yH (aSh HR1.out HB1.out hps (by have:=II.out.len;omega) (by have:=JJ.out.len;omega));have RMAY:=yH (show mayB x.nu x.de=true from MAY.out.2.2.2.2.2);have BDS:=yH (show 1≤x.lf∧x.lf≤1099511627776 from MAY.out.2.2.2.2.1);clear hfp hps;go_wp2_with fail;refine CF.out.mono ?_;rintro e w2 ⟨rfl,rfl⟩;go_wp2_with fail;refine CCp.out.mono ?_;rintro e w4 ⟨cl,cb,vp2,vl2,vb2,rfl,hcl,hcb,g1,g2,g3,g4,g5,b4⟩;have bh:=(Below.refl w4.heap.size w4).alloc yL (.cells #[.pointer (some ⟨cl,0,none⟩),.pointer (some ⟨cb,0,none⟩)] 36);have KC:=yH (pAA w4 #[.pointer (some ⟨cl,0,none⟩),.pointer (some ⟨cb,0,none⟩)] 36);have b5:=b4.trans (bh.mono b4.size);have KO5:=yB KO1 b5;have KZ5:=yB KZ1 b5;have KN5:=yB KN1 b5;have B5:=yT B1 b5;have RL5:=yH (hcl.below bh);have RB5:=yH (hcb.below bh);have GE:=yH (show w.heap.size+3<cl∧w.heap.size+3<cb∧cl<w4.heap.size∧cb<w4.heap.size∧w.heap.size+3<w4.heap.size from by have:=HWZ.out;have h1:=hcl.blk.lt;have h2:=hcb.blk.lt;omega);clear bh b4 b5 hcl hcb g1 g2 g3 g4 g5 CCp CF KX1 KO1 KZ1 KN1 B1 HR1 HB1 x0 x1 xl o1 ol;have o4:=KO5.out.cell 4;have ol:=KO5.out.lt;simp at o4;go_wp2_with fail;generalize w4.alloc (.cells #[.pointer (some ⟨cl,0,none⟩),.pointer (some ⟨cb,0,none⟩)] 36)=W5 at *;clear o4 ol
 go_loopw [10,11,12,13,14,15] (fun nv av _ _ _ _  wr=>PlcAt W5 bl bb cl cb ps ls l N x.ow x.sl x.bu x.nu x.de x.lf nv av wr) (fun nv _ _ _ _ _ _=>(intOf nv).toNat)
 case atStart=>exact⟨⟨ls,l,[],x.lf⟩,_,_,_,rfl,RL5.out,RB5.out,World.ownsRow_nil _ _ _ _,aE6.start II.out JJ.out (by have:=BDS.out;omega),Keep.refl _ _,yH rfl⟩
 obtain⟨σ,vp,vl,vb,rfl,hRL,hRB,hO,hS,hK,HE⟩:=hrel;have RL:=yH hRL;have RB:=yH hRB;have OO:=yH hO;have SI:=yH hS;have KK:=yH hK;have hne:¬(w4.heap.size=cl∨w4.heap.size=cb):=by have:=GE.out;omega
 have hno:¬(w.heap.size+1=cl∨w.heap.size+1=cb):=by have:=GE.out;omega
 have hnz:¬(w.heap.size+2=cl∨w.heap.size+2=cb):=by have:=GE.out;omega
 have hnn:¬(w.heap.size+3=cl∨w.heap.size+3=cb):=by have:=GE.out;omega
 have KCr:=yH (KC.out.keep hK hne);have KOr:=yH (KO5.out.keep hK hno);have KZr:=yH (KZ5.out.keep hK hnz);have KNr:=yH (KN5.out.keep hK hnn);have BR:Hid (Below w.heap.size w wr):=yH (B5.out.trans (hK.below B5.out.size (fun k hk h=>by have:=GE.out;omega)));obtain⟨sn,hsn⟩:∃sn,σ.n=sn:=⟨_,rfl⟩;have HSN:=yH hsn
 have hsle:0≤sn∧sn≤1099511627776:=by
  have h1:=hS.sum;have h2:=hS.nn;have h3:0≤(σ.fs.map Fl.gi).sum:=hS.gi_nn;have:=BDS.out;omega
 rw[hsn];clear hRL hRB hO hS hK hsn hne hno hnz hnn RL5 RB5 KZ5 KN5 KO5
 by_cases hn0:0<sn
 rotate_left
 ·have q0:decide (0<sn)=false:=by simpa using hn0
  have q1:(sn==0)=true:=by simp;omega
  have YES:Hid (aB0 ps ls l N x.ow x.sl x.bu x.lf x.nu x.de=(0,σ,N,0)):=yH (by
   rw[OK.out,HE.out,aEu (by rw[HSN.out];omega)];unfold aDb;rw[if_neg (by simp),if_pos (by show σ.n≤0;rw[HSN.out];omega)])
  clear hn0;obtain⟨WE,hWE⟩:∃WE,WE=wr:=⟨_,rfl⟩;subst hWE;have z0:=KCr.out.cell 0;have z1:=KCr.out.cell 1;have zl:=KCr.out.lt;simp at z0 z1;go_wp2_with (refine aAb rfl 36 (.tmp 4) (.tmp 80) rfl (w.heap.size+2) #[.pointer (some ⟨cl,0,none⟩),.pointer (some ⟨cb,0,none⟩)] rfl rfl 36 _ KZr.out.out (by kernel_rfl) rfl (by simp[Value.oneCell']) ?_);refine bodyPost_ret (v:=.tuple #[.agg #[.pointer (some ⟨cl,0,none⟩),.pointer (some ⟨cb,0,none⟩)],_,.int .u64 0,.int .i64 0]) (aAv rfl _ _ (w.heap.size+2) 36 #[.pointer (some ⟨cl,0,none⟩),.pointer (some ⟨cb,0,none⟩)] _ _ _ _ rfl (setRow_heap _ (w.heap.size+2) _ _ _ (0,0) KZr.out.out) Tryz.underlying36 rfl (by kernel_rfl) rfl rfl rfl) rfl ?_;have kk:=aAf (w:=WE) (w.heap.size+2) #[.pointer (some ⟨cl,0,none⟩),.pointer (some ⟨cb,0,none⟩)];refine .inr ⟨cl,cb,_,_,_,_,_,N,_,YES.out,rfl,RL.out.keep kk ?_ ?_ ?_,RB.out.keep kk ?_ ?_,?_,?_,?_,below_setRow BR.out (by omega) _⟩
  ·have:=GE.out;omega
  ·exact fun b hb=>aAi RL.out.p KZr.out (by decide) b hb
  ·exact fun b hb=>aAi RL.out.l KZr.out (by decide) b hb
  ·have:=GE.out;omega
  ·exact fun b hb=>aAi RB.out.row KZr.out (by decide) b hb
  ·exact aA4 (aAl OO.out kk (fun b hb=>aAi OO.out KZr.out (by decide) b hb)) (by have:=B5.out.size;omega)
  ·have:=GE.out;omega
  have:=GE.out;omega
 have q0:decide (0<sn)=true:=by simpa using hn0
 obtain⟨ao,cap,hav,hc1,hc2,_,_⟩:=aAd OO.out;subst hav;obtain⟨rs,rk,hr⟩:∃rs rk,(aBc ps σ.ls σ.l x.ow x.ow 1099511627776 sn (agO σ.l x.sl x.bu x.nu x.de)).getD (0,0)=(rs,rk):=⟨_,_,rfl⟩;have HRr:=yH hr;have S64:=yH (show In64 sn from⟨by omega,by omega⟩);have M64:=yH (show In64 1099511627776 from by unfold In64;decide);unfold maxLen at hc2;clear hr;go_wp2_with fail
 have hlasts:∀q∈([(3,(fun v w=>w.ownsRow wr.heap.size 48 7 v (agO σ.l x.sl x.bu x.nu x.de).length (aAa (agO σ.l x.sl x.bu x.nu x.de))))]:List (Nat×(Value→World→Prop))),Lasts q.2:=by
  intro q hq;simp only[yI,yJ,or_false]at hq;rcases hq with rfl
  exact fun v w w' h k=>aAc h k
 have HL:=yH hlasts;clear hlasts
 refine aD3 (by kernel_rfl) (fun s:Nat→Value=>[(.agg #[.pointer (some ⟨cl,0,none⟩),.pointer (some ⟨cb,0,none⟩)]),(.agg #[.pointer (some ⟨cl,0,none⟩),.pointer (some ⟨cb,0,none⟩)]),(.agg #[.int .u64 x.se,.int .u8 x.ow,.int .u8 x.sl,.int .u8 x.bu,.int .i64 x.lf,.int .i64 x.nu,.int .i64 x.de]),s 3,(.pointer (some ⟨w.heap.size+1,1,none⟩)),(.int .u8 x.ow),(.pointer (some ⟨w.heap.size+1,1,none⟩)),(.int .u8 x.ow),(.int .i64 sn),(.tuple #[.int .u64 rs,.int .i64 rk]),(.tuple #[.int .u64 rs,.int .i64 rk]),(.int .u64 rs),(.int .i64 rk),(.int .u64 rs),(.int .i64 rk)])
  (Got wr [(3,(fun v w=>w.ownsRow wr.heap.size 48 7 v (agO σ.l x.sl x.bu x.nu x.de).length (aAa (agO σ.l x.sl x.bu x.nu x.de))))]) (by kernel_rfl) (fun _=>undef) (Got.start _ _ _) ?_
 intro AF hAF;simp only[yG,puts,Act.put,yA,yC,yF,yD,yE]at hAF;have hAF2:_=AF:=funext hAF;subst hAF2;clear hAF;refine⟨?_,?_⟩
 ·simp only[yG,aL4];refine⟨?_,?_,?_,?_,?_,?_,?_,?_,?_,?_,?_,?_,?_,?_,?_,trivial⟩
  ·intro s D w' hD hW hC hI;have hS:=hI.below;refine .inl ⟨s,fun _ _ _=>rfl,?_⟩;with_reducible refine yO rfl ?_
   have hl0:=yM KCr.out.lt hS.size;have d0_0:=(KCr.out.below hS KCr.out.lt).cell 0;have d0_1:=(KCr.out.below hS KCr.out.lt).cell 1;simp at d0_0 d0_1;have HS:=yH (hI.step HL.out yZ (k:=0) (by intro q hq;simp only[yI,yJ,or_false]at hq;rcases hq with rfl <;> first|exact(show(3:Nat)≠0 by decide)));clear hI hS hC hW hD;go_wp2_with fail;all_goals first|exact HS|exact⟨rfl,HS⟩|rfl
  ·intro s D w' hD hW hC hI;have hS:=hI.below;refine .inl ⟨s,fun _ _ _=>rfl,?_⟩;with_reducible refine yO rfl ?_
   have hl0:=yM KCr.out.lt hS.size;have d0_0:=(KCr.out.below hS KCr.out.lt).cell 0;have d0_1:=(KCr.out.below hS KCr.out.lt).cell 1;simp at d0_0 d0_1;have HS:=yH (hI.step HL.out yZ (k:=1) (by intro q hq;simp only[yI,yJ,or_false]at hq;rcases hq with rfl <;> first|exact(show(3:Nat)≠1 by decide)));clear hI hS hC hW hD;go_wp2_with fail;all_goals first|exact HS|exact⟨rfl,HS⟩|rfl
  ·intro s D w' hD hW hC hI;have hS:=hI.below;refine .inl ⟨s,fun _ _ _=>rfl,?_⟩;with_reducible refine yO rfl ?_
   have hl0:=yM KOr.out.lt hS.size;have d0_0:=(KOr.out.below hS KOr.out.lt).cell 0;have d0_1:=(KOr.out.below hS KOr.out.lt).cell 1;have d0_2:=(KOr.out.below hS KOr.out.lt).cell 2;have d0_3:=(KOr.out.below hS KOr.out.lt).cell 3;have d0_4:=(KOr.out.below hS KOr.out.lt).cell 4;have d0_5:=(KOr.out.below hS KOr.out.lt).cell 5;have d0_6:=(KOr.out.below hS KOr.out.lt).cell 6;simp at d0_0 d0_1 d0_2 d0_3 d0_4 d0_5 d0_6;have HS:=yH (hI.step HL.out yZ (k:=2) (by intro q hq;simp only[yI,yJ,or_false]at hq;rcases hq with rfl <;> first|exact(show(3:Nat)≠2 by decide)));clear hI hS hC hW hD;go_wp2_with fail;all_goals first|exact HS|exact⟨rfl,HS⟩|rfl
  ·intro s D w' hD hW hC hI;have hS:=hI.below;have HI:=yH hI;have HCl:=yH hC;have HD:=yH hD;have HC:=yH (aQf (rl:=cl) (RB.out.below hS) SI.out.binv x RMAY.out);refine .inr ?_;with_reducible refine aD2.plain ?_ ?_
   exact rfl;clear hI hS hC hW hD;go_wp2_with fail;refine HC.out.mono ?_;rintro e w'' ⟨v,rfl,hv,hb2⟩;refine⟨v,rfl,updV s 3 v,aJ8 _ (fun s:Nat→Value=>[(.agg #[.pointer (some ⟨cl,0,none⟩),.pointer (some ⟨cb,0,none⟩)]),(.agg #[.pointer (some ⟨cl,0,none⟩),.pointer (some ⟨cb,0,none⟩)]),(.agg #[.int .u64 x.se,.int .u8 x.ow,.int .u8 x.sl,.int .u8 x.bu,.int .i64 x.lf,.int .i64 x.nu,.int .i64 x.de]),s 3,(.pointer (some ⟨w.heap.size+1,1,none⟩)),(.int .u8 x.ow),(.pointer (some ⟨w.heap.size+1,1,none⟩)),(.int .u8 x.ow),(.int .i64 sn),(.tuple #[.int .u64 rs,.int .i64 rk]),(.tuple #[.int .u64 rs,.int .i64 rk]),(.int .u64 rs),(.int .i64 rk),(.int .u64 rs),(.int .i64 rk)]) s 3 v HCl.out HD.out ?_,rfl,HI.out.put HL.out hb2 ?_⟩
   ·intro j hj
    match j,hj with
    | 0,_=>exact .inr rfl
    | 1,_=>exact .inr rfl
    | 2,_=>exact .inr rfl
    | 3,_=>exact .inl (.inl rfl)
    | 4,_=>exact .inr rfl
    | 5,_=>exact .inr rfl
    | 6,_=>exact .inr rfl
    | 7,_=>exact .inr rfl
    | 8,_=>exact .inr rfl
    | 9,_=>exact .inr rfl
    | 10,_=>exact .inr rfl
    | 11,_=>exact .inr rfl
    | 12,_=>exact .inr rfl
    | 13,_=>exact .inr rfl
    | 14,_=>exact .inr rfl
    | j+15,_=>exact .inr rfl
   intro q hq he;simp only[yI,yJ,or_false]at hq;rcases hq with rfl <;> first|exact aA4 hv HI.out.below.size
  ·intro s D w' hD hW hC hI;have hS:=hI.below;refine .inl ⟨s,fun _ _ _=>rfl,?_⟩;with_reducible refine yO rfl ?_
   have HS:=yH (hI.step HL.out yZ (k:=4) (by intro q hq;simp only[yI,yJ,or_false]at hq;rcases hq with rfl <;> first|exact(show(3:Nat)≠4 by decide)));clear hI hS hC hW hD;go_wp2_with fail;all_goals first|exact HS|exact⟨rfl,HS⟩|rfl
  ·intro s D w' hD hW hC hI;have hS:=hI.below;refine .inl ⟨s,fun _ _ _=>rfl,?_⟩;with_reducible refine yO rfl ?_
   have hl0:=yM KOr.out.lt hS.size;have d0_0:=(KOr.out.below hS KOr.out.lt).cell 0;have d0_1:=(KOr.out.below hS KOr.out.lt).cell 1;have d0_2:=(KOr.out.below hS KOr.out.lt).cell 2;have d0_3:=(KOr.out.below hS KOr.out.lt).cell 3;have d0_4:=(KOr.out.below hS KOr.out.lt).cell 4;have d0_5:=(KOr.out.below hS KOr.out.lt).cell 5;have d0_6:=(KOr.out.below hS KOr.out.lt).cell 6;simp at d0_0 d0_1 d0_2 d0_3 d0_4 d0_5 d0_6;have HS:=yH (hI.step HL.out yZ (k:=5) (by intro q hq;simp only[yI,yJ,or_false]at hq;rcases hq with rfl <;> first|exact(show(3:Nat)≠5 by decide)));clear hI hS hC hW hD;go_wp2_with fail;all_goals first|exact HS|exact⟨rfl,HS⟩|rfl
  ·intro s D w' hD hW hC hI;have hS:=hI.below;refine .inl ⟨s,fun _ _ _=>rfl,?_⟩;with_reducible refine yO rfl ?_
   have HS:=yH (hI.step HL.out yZ (k:=6) (by intro q hq;simp only[yI,yJ,or_false]at hq;rcases hq with rfl <;> first|exact(show(3:Nat)≠6 by decide)));clear hI hS hC hW hD;go_wp2_with fail;all_goals first|exact HS|exact⟨rfl,HS⟩|rfl
  ·intro s D w' hD hW hC hI;have hS:=hI.below;refine .inl ⟨s,fun _ _ _=>rfl,?_⟩;with_reducible refine yO rfl ?_
   have hl0:=yM KOr.out.lt hS.size;have d0_0:=(KOr.out.below hS KOr.out.lt).cell 0;have d0_1:=(KOr.out.below hS KOr.out.lt).cell 1;have d0_2:=(KOr.out.below hS KOr.out.lt).cell 2;have d0_3:=(KOr.out.below hS KOr.out.lt).cell 3;have d0_4:=(KOr.out.below hS KOr.out.lt).cell 4;have d0_5:=(KOr.out.below hS KOr.out.lt).cell 5;have d0_6:=(KOr.out.below hS KOr.out.lt).cell 6;simp at d0_0 d0_1 d0_2 d0_3 d0_4 d0_5 d0_6;have HS:=yH (hI.step HL.out yZ (k:=7) (by intro q hq;simp only[yI,yJ,or_false]at hq;rcases hq with rfl <;> first|exact(show(3:Nat)≠7 by decide)));clear hI hS hC hW hD;go_wp2_with fail;all_goals first|exact HS|exact⟨rfl,HS⟩|rfl
  ·intro s D w' hD hW hC hI;have hS:=hI.below;refine .inl ⟨s,fun _ _ _=>rfl,?_⟩;with_reducible refine yO rfl ?_
   have HS:=yH (hI.step HL.out yZ (k:=8) (by intro q hq;simp only[yI,yJ,or_false]at hq;rcases hq with rfl <;> first|exact(show(3:Nat)≠8 by decide)));clear hI hS hC hW hD;go_wp2_with fail;all_goals first|exact HS|exact⟨rfl,HS⟩|rfl
  ·intro s D w' hD hW hC hI;have hS:=hI.below;refine .inl ⟨s,fun _ _ _=>rfl,?_⟩;with_reducible refine yO rfl ?_
   have hP3:D 3=true:=aA8 hC hW (by kernel_rfl);have hq3:=hI.at (3,(fun v w=>w.ownsRow wr.heap.size 48 7 v (agO σ.l x.sl x.bu x.nu x.de).length (aAa (agO σ.l x.sl x.bu x.nu x.de)))) (by simp) hP3;dsimp only at hq3;have HI:=yH hI;have HC:=yH ((by have q:=aQg (RL.out.below hS) SI.out.linv (RB.out.below hS) SI.out.binv hq3 x.ow x.ow 1099511627776 sn HF.out HF.out M64.out S64.out;rw[HRr.out]at q;exact q:Calls Tryz.prog 50 #[.agg #[.pointer (some ⟨cl,0,none⟩),.pointer (some ⟨cb,0,none⟩)],s 3,.int .u8 x.ow,.int .u8 x.ow,.int .i64 1099511627776,.int .i64 sn] w' fun e w''=>e=.returned (.tuple #[.int .u64 rs,.int .i64 rk])∧Below w'.heap.size w' w''));clear hI hS hC hW hD hP3 hq3;go_wp2_with fail;refine HC.out.mono ?_;rintro e w'' ⟨rfl,hb2⟩;exact⟨rfl,HI.out.step HL.out hb2 (by intro q hq;simp only[yI,yJ,or_false]at hq;rcases hq with rfl <;> first|exact(show(3:Nat)≠9 by decide))⟩
  ·intro s D w' hD hW hC hI;have hS:=hI.below;refine .inl ⟨s,fun _ _ _=>rfl,?_⟩;with_reducible refine yO rfl ?_
   have HS:=yH (hI.step HL.out yZ (k:=10) (by intro q hq;simp only[yI,yJ,or_false]at hq;rcases hq with rfl <;> first|exact(show(3:Nat)≠10 by decide)));clear hI hS hC hW hD;go_wp2_with fail;all_goals first|exact HS|exact⟨rfl,HS⟩|rfl
  ·intro s D w' hD hW hC hI;have hS:=hI.below;refine .inl ⟨s,fun _ _ _=>rfl,?_⟩;with_reducible refine yO rfl ?_
   have HS:=yH (hI.step HL.out yZ (k:=11) (by intro q hq;simp only[yI,yJ,or_false]at hq;rcases hq with rfl <;> first|exact(show(3:Nat)≠11 by decide)));clear hI hS hC hW hD;go_wp2_with fail;all_goals first|exact HS|exact⟨rfl,HS⟩|rfl
  ·intro s D w' hD hW hC hI;have hS:=hI.below;refine .inl ⟨s,fun _ _ _=>rfl,?_⟩;with_reducible refine yO rfl ?_
   have HS:=yH (hI.step HL.out yZ (k:=12) (by intro q hq;simp only[yI,yJ,or_false]at hq;rcases hq with rfl <;> first|exact(show(3:Nat)≠12 by decide)));clear hI hS hC hW hD;go_wp2_with fail;all_goals first|exact HS|exact⟨rfl,HS⟩|rfl
  ·intro s D w' hD hW hC hI;have hS:=hI.below;refine .inl ⟨s,fun _ _ _=>rfl,?_⟩;with_reducible refine yO rfl ?_
   have HS:=yH (hI.step HL.out yZ (k:=13) (by intro q hq;simp only[yI,yJ,or_false]at hq;rcases hq with rfl <;> first|exact(show(3:Nat)≠13 by decide)));clear hI hS hC hW hD;go_wp2_with fail;all_goals first|exact HS|exact⟨rfl,HS⟩|rfl
  intro s D w' hD hW hC hI;have hS:=hI.below;refine .inl ⟨s,fun _ _ _=>rfl,?_⟩;with_reducible refine yO rfl ?_
  have HS:=yH (hI.step HL.out yZ (k:=14) (by intro q hq;simp only[yI,yJ,or_false]at hq;rcases hq with rfl <;> first|exact(show(3:Nat)≠14 by decide)));clear hI hS hC hW hD;go_wp2_with fail;all_goals first|exact HS|exact⟨rfl,HS⟩|rfl
 intro s9 D9 w9 hall hI9;have b9:=hI9.below;have KC9:=yB KCr b9;have KO9:=yB KOr b9;have KZ9:=yB KZr b9;have KN9:=yB KNr b9;have RL9:=yH (RL.out.below b9);have RB9:=yH (RB.out.below b9);have OO9:=yH (aAc OO.out b9);have B9:=yT BR b9;have KK9:=yH (KK.out.trans (pAE (S:=fun k=>k=cl∨k=cb) b9));clear b9 hall hI9 KCr KOr KZr KNr RL RB OO BR KK;have HR0:=HRr.out
 cases hfs:aBc ps σ.ls σ.l x.ow x.ow 1099511627776 sn (agO σ.l x.sl x.bu x.nu x.de)with
 | none=>
  rw[hfs]at HR0;simp only[Option.getD_none,Prod.mk.injEq]at HR0;obtain⟨h1,h2⟩:=HR0;subst h1 h2;have q1:(sn==0)=false:=by simp;omega
  obtain⟨pe,hpe⟩:∃pe,aBw σ.l ⟨N,x.ow,x.sl,x.bu,sn,x.nu,x.de⟩=pe:=⟨_,rfl⟩;obtain⟨pn,hpn⟩:∃pn,aCo σ.l ⟨N,x.ow,x.sl,x.bu,sn,x.nu,x.de⟩=pn:=⟨_,rfl⟩
  have END:Hid (aB0 ps ls l N x.ow x.sl x.bu x.lf x.nu x.de=(pe,⟨σ.ls,aB8 σ.l ⟨N,x.ow,x.sl,x.bu,sn,x.nu,x.de⟩,σ.fs,sn⟩,aBo σ.l ⟨N,x.ow,x.sl,x.bu,sn,x.nu,x.de⟩,pn)):=yH (by
   rw[OK.out,HE.out,aEv (by rw[HSN.out];omega) (by rw[HSN.out];exact hfs)];unfold aDb;rw[if_neg (by simp),if_neg (by show ¬σ.n≤0;rw[HSN.out];omega)];simp only[HSN.out,hpe,hpn])
  have CPl:=yH (aM8 (x:=⟨N,x.ow,x.sl,x.bu,sn,x.nu,x.de⟩) RB9.out (by have:=SI.out.binv.len;omega) (by have:=SI.out.binv.n1;show 0≤N;omega) (by have:=SI.out.binv.n2;show N≤_;omega));rw[hpe,hpn]at CPl;clear hfs hpe hpn;have x0:=KC9.out.cell 0;have x1:=KC9.out.cell 1;have xl:=KC9.out.lt;have o1:=KO9.out.cell 1;have o2:=KO9.out.cell 2;have o3:=KO9.out.cell 3;have o5:=KO9.out.cell 5;have o6:=KO9.out.cell 6;have ol:=KO9.out.lt;simp at x0 x1 o1 o2 o3 o5 o6;go_wp2_with fail;refine CPl.out.mono ?_;rintro e WE ⟨rfl,vl',hRB',kk⟩;clear x0 x1 xl o1 o2 o3 o5 o6 ol CPl;have kk2:Keep (fun k=>k=cl∨k=cb) w9 WE:=kk.mono (fun k _ h=>.inr h);have KCe:=yH (KC9.out.keep kk2 (by have:=GE.out;omega));have KZe:=yH (KZ9.out.keep kk2 (by have:=GE.out;omega));have KNe:=yH (KN9.out.keep kk2 (by have:=GE.out;omega));have OOe:=yH (aAl OO9.out kk (fun b hb h=>by subst h;exact aAi OO9.out RB9.out.blk (by decide) _ hb rfl));have RLe:=yH (RL9.out.keep kk (fun h=>by have h1:=RL9.out.blk;have h2:=RB9.out.blk;subst h;simp[Blk]at h1 h2;rw[h1]at h2;simp at h2) (fun b hb h=>by subst h;exact aAi RL9.out.p RB9.out.blk (by decide) _ hb rfl) (fun b hb h=>by subst h;exact aAi RL9.out.l RB9.out.blk (by decide) _ hb rfl));have RBe:=yH hRB';have Be:=yH (B9.out.trans (kk2.below B9.out.size (fun k hk h=>by have:=GE.out;omega)));clear kk kk2 hRB' KC9 KO9 KZ9 KN9 RL9 RB9 OO9 B9 KK9
  by_cases hz:pe=0
  rotate_left
  ·have q2:(pe != 0)=true:=by simpa using hz
   have HZ:=yH hz;clear hz;have z0:=KNe.out.cell 0;have z1:=KNe.out.cell 1;have zl:=KNe.out.lt;simp at z0 z1;go_wp2_with (refine aAb rfl 36 (.tmp 4) (.tmp 99) rfl (w.heap.size+2) #[.pointer none,.pointer none] rfl rfl 36 _ KZe.out.out (by kernel_rfl) rfl (by simp[Value.oneCell']) ?_);refine bodyPost_ret (v:=.tuple #[.agg #[.pointer none,.pointer none],.slice none 0 0,.int .u64 0,.int .i64 pe]) (aAv rfl _ _ (w.heap.size+2) 36 #[.pointer none,.pointer none] _ _ _ _ rfl (setRow_heap _ (w.heap.size+2) _ _ _ (0,0) KZe.out.out) Tryz.underlying36 rfl (by kernel_rfl) rfl rfl rfl) rfl ?_;exact .inl ⟨pe,HZ.out,by rw[END.out],rfl,below_setRow Be.out (by omega) _⟩
  subst hz;have z0:=KCe.out.cell 0;have z1:=KCe.out.cell 1;have zl:=KCe.out.lt;simp at z0 z1;go_wp2_with (refine aAb rfl 36 (.tmp 4) (.tmp 101) rfl (w.heap.size+2) #[.pointer (some ⟨cl,0,none⟩),.pointer (some ⟨cb,0,none⟩)] rfl rfl 36 _ KZe.out.out (by kernel_rfl) rfl (by simp[Value.oneCell']) ?_);refine bodyPost_ret (v:=.tuple #[.agg #[.pointer (some ⟨cl,0,none⟩),.pointer (some ⟨cb,0,none⟩)],_,.int .u64 pn,.int .i64 0]) (aAv rfl _ _ (w.heap.size+2) 36 #[.pointer (some ⟨cl,0,none⟩),.pointer (some ⟨cb,0,none⟩)] _ _ _ _ rfl (setRow_heap _ (w.heap.size+2) _ _ _ (0,0) KZe.out.out) Tryz.underlying36 rfl (by kernel_rfl) rfl rfl rfl) rfl ?_;have kk:=aAf (w:=WE) (w.heap.size+2) #[.pointer (some ⟨cl,0,none⟩),.pointer (some ⟨cb,0,none⟩)];refine .inr ⟨cl,cb,_,_,_,_,_,_,_,END.out,rfl,RLe.out.keep kk ?_ ?_ ?_,RBe.out.keep kk ?_ ?_,?_,?_,?_,below_setRow Be.out (by omega) _⟩
  ·have:=GE.out;omega
  ·exact fun b hb=>aAi RLe.out.p KZe.out (by decide) b hb
  ·exact fun b hb=>aAi RLe.out.l KZe.out (by decide) b hb
  ·have:=GE.out;omega
  ·exact fun b hb=>aAi RBe.out.row KZe.out (by decide) b hb
  ·exact aA4 (aAl OOe.out kk (fun b hb=>aAi OOe.out KZe.out (by decide) b hb)) (by have:=B5.out.size;omega)
  ·have:=GE.out;omega
  ·have:=GE.out;omega
 | some sk=>
  obtain⟨s0,k0⟩:=sk;rw[hfs]at HR0;simp only[Option.getD_some,Prod.mk.injEq]at HR0;obtain⟨h1,h2⟩:=HR0;subst h1 h2;obtain⟨k1,k2,ok,o,ho,_,_,u1,u2,hnx,hnext⟩:=SI.out.step (s:=s0) (k:=k0) (by rw[HSN.out];exact hfs);rw[HSN.out]at u2 hnx;have HFS:=yH hfs;have HOK:=yH ok;have HO:=yH ho;have HNX:=yH hnext;have z5:(k0==0)=false:=by simp;omega
  clear hfs ok ho hnext
  by_cases hfull:σ.fs.length=64
  ·have z6:((σ.fs.length:Int)==64)=true:=by simp;omega
   have NO:Hid ((aB0 ps ls l N x.ow x.sl x.bu x.lf x.nu x.de).1=13):=yH (by
    rw[OK.out,HE.out,aEw (by rw[HSN.out];omega) (by rw[HSN.out];exact HFS.out) hfull];unfold aDb;rw[if_pos (by simp)])
   clear hfull;have z0:=KN9.out.cell 0;have z1:=KN9.out.cell 1;have zl:=KN9.out.lt;simp at z0 z1;go_wp2_with (refine aAb rfl 36 (.tmp 4) (.tmp 54) rfl (w.heap.size+2) #[.pointer none,.pointer none] rfl rfl 36 _ KZ9.out.out (by kernel_rfl) rfl (by simp[Value.oneCell']) ?_);refine bodyPost_ret (v:=.tuple #[.agg #[.pointer none,.pointer none],.slice none 0 0,.int .u64 0,.int .i64 13]) (aAv rfl _ _ (w.heap.size+2) 36 #[.pointer none,.pointer none] _ _ _ _ rfl (setRow_heap _ (w.heap.size+2) _ _ _ (0,0) KZ9.out.out) Tryz.underlying36 rfl (by kernel_rfl) rfl rfl rfl) rfl ?_;exact .inl ⟨13,by decide,NO.out,rfl,below_setRow B9.out (by omega) _⟩
  have z6:((σ.fs.length:Int)==64)=false:=by simp;omega
  have hl64:σ.fs.length+1≤64:=by have:=SI.out.len;omega
  have HL64:=yH hl64;have NX2:=yH (HNX.out hfull);have CDo:=yH (rdoS_any RL9.out SI.out.linv RB9.out SI.out.binv s0 x.ow x.ow k0 HF.out HF.out ⟨by omega,by omega⟩);have c0:=KC9.out.cell 0;have c1:=KC9.out.cell 1;have cl0:=KC9.out.lt;have o1:=KO9.out.cell 1;have ol:=KO9.out.lt;simp at c0 c1 o1;clear hfull hl64;go_wp2_with fail;refine CDo.out.mono ?_;rintro e wd hd;clear c0 c1 cl0 CDo o1 ol;rcases hd with⟨hno,_⟩|⟨_,o',y,vl',vb',ho',hy,rfl,hRL',hRB',kk⟩
  ·exact absurd HOK.out hno
  rw[HO.out]at ho'
  cases ho'
  rw[←hy]at u1 u2 hnx;have EN:=yH hnx;have KCd:=yH (KC9.out.keep kk (by have:=GE.out;omega))
  have OOd:=yH (aAl OO9.out kk (fun b hb h=>by
   rcases h with h|h
   ·subst h;exact aAi OO9.out RL9.out.blk (by decide) _ hb rfl
   subst h;exact aAi OO9.out RB9.out.blk (by decide) _ hb rfl))
  have KKd:=yH (KK9.out.trans kk);have OB:Hid (∀b,(Value.slice ao σ.fs.length cap).ownBlock=some b→b<wd.heap.size):=yH (fun b h=>(aAe OOd.out h).2.1);have bf:=(Below.refl wd.heap.size wd).alloc yL (.cells #[.int .u64 s0,.int .u8 x.ow,.int .u8 x.ow,.int .i64 k0,.int .i64 y] 109);have KF:=yH (pAA wd #[.int .u64 s0,.int .u8 x.ow,.int .u8 x.ow,.int .i64 k0,.int .i64 y] 109);have RLf:=yH (hRL'.below bf);have RBf:=yH (hRB'.below bf);have OOf:=yH (aAc OOd.out bf);have KKf:=yH (KKd.out.trans (pAE (S:=fun k=>k=cl∨k=cb) bf));clear bf hRL' hRB' kk hy hnx RL9 RB9 OO9 KK9 KC9 KO9 KZ9 KN9 KCd OOd KKd B9;generalize hWF:wd.alloc (.cells #[.int .u64 s0,.int .u8 x.ow,.int .u8 x.ow,.int .i64 k0,.int .i64 y] 109)=WF at *;have HWF:=yH hWF;clear hWF;have f0:=KF.out.cell 0;have f1:=KF.out.cell 1;have f2:=KF.out.cell 2;have f3:=KF.out.cell 3;have f4:=KF.out.cell 4;have fl:=KF.out.lt;simp at f0 f1 f2 f3 f4;have hb5:=KKf.out.size
  go_upto_region 17 with fail
  rw[HWF.out];go_wp2_with (at_builtin;refine aFl _ rfl (.tmp 70) (.tmp 72) 49 109 rfl Tryz.underlying49 info_fl12 rfl (by decide) (by decide) W5.heap.size _ σ.fs.length _ rfl (OOf.out.alloc _) WF.heap.size 1 [.int .u64 s0,.int .u8 x.ow,.int .u8 x.ow,.int .i64 k0,.int .i64 y] rfl rfl (pAA _ _ _) (by simp[Value.oneCell']) (by have:=HL64.out;omega) (by simp;omega) (by
  intro v2 w2 ho2 hg2;have KG:Keep (fun k=>(Value.slice ao σ.fs.length cap).ownBlock=some k) WF w2:=((Keep.refl _ WF).alloc _).grown hg2 (fun k hk=>.inl hk);have RL2:=yH (RLf.out.keep KG (fun h=>aAi OOf.out RLf.out.blk (by decide) _ h rfl) (fun b hb h=>aFk OOf.out RLf.out.p (by decide) b h hb) (fun b hb h=>aFk OOf.out RLf.out.l (by decide) b h hb));have RB2:=yH (RBf.out.keep KG (fun h=>aAi OOf.out RBf.out.blk (by decide) _ h rfl) (fun b hb h=>aFk OOf.out RBf.out.row (by decide) b h hb));have KK2:=yH (KKf.out.trans_new KG (fun j hj h=>by have:=(aAe OOf.out h).1;omega));have O2:=yH (show w2.ownsRow W5.heap.size 109 5 v2 (σ.fs++[(⟨s0,k0,y⟩:Fl)]).length (aCm x.ow x.ow (σ.fs++[(⟨s0,k0,y⟩:Fl)]))from by rw[aJw];simpa [Fl.vals]using ho2)
  have HE2:Hid (aBl ps x.ow x.sl x.bu x.nu x.de 64 ⟨ls,l,[],x.lf⟩=aBl ps x.ow x.sl x.bu x.nu x.de (64 - (σ.fs.length+1)) (aJ4 ps x.ow σ s0 k0)):=yH (by
   rw[HE.out,←aD0 (by rw[HSN.out];omega) (by rw[HSN.out];exact HFS.out) (by have:=HL64.out;omega)];congr 1;have:=HL64.out;omega)
  rw[EN.out]at HE2 NX2;have KF2:=yH (KF.out.keep KG (fun h=>Nat.lt_irrefl _ (OB.out _ h)));clear KG ho2 hg2 f0 f1 f2 f3 f4 fl hb5 EN HNX HE;have f0:=KF2.out.cell 0;have f1:=KF2.out.cell 1;have f2:=KF2.out.cell 2;have f3:=KF2.out.cell 3;have f4:=KF2.out.cell 4;have fl:=KF2.out.lt;simp at f0 f1 f2 f3 f4;go_wp2_with fail;exact⟨⟨⟨aCy ps σ.ls o x.ow x.ow k0 y,aCh σ.l s0 k0,σ.fs++[⟨s0,k0,y⟩],sn - y⟩,_,_,_,by first|rfl|go_num,RL2.out,RB2.out,O2.out,NX2.out,KK2.out,yH (by rw[HE2.out];simp)⟩,by simp[intOf];omega⟩))
structure aQi(ps:List Int)(ls:List Ln)(l:List Of)(N ow sl bu lf nu de:Int)(σ:SwS)(N' sq:Int)(τ:SwS):Prop where
 may:(Of.mk 0 ow sl bu lf nu de).may
 part:ow∈ps
 inv:aE6 ps ls l N ow sl bu nu de lf τ
 is:aBl ps ow sl bu nu de 64 ⟨ls,l,[],lf⟩=(0,τ)
 ends:(τ.n=0∧σ=τ∧N'=N∧sq=0)∨(1≤τ.n∧aBc ps τ.ls τ.l ow ow 1099511627776 τ.n (agO τ.l sl bu nu de)=none∧aBw τ.l ⟨N,ow,sl,bu,τ.n,nu,de⟩=0∧σ=⟨τ.ls,τ.l++[⟨N,ow,sl,bu,τ.n,nu,de⟩],τ.fs,τ.n⟩∧N'=N+1∧sq=N)
theorem aSq{ps:List Int}{ls:List Ln}{l:List Of}{N ow sl bu lf nu de:Int}{σ:SwS}{N' sq:Int}(hI:LInv ps ls)(hJ:BInv l N)(h:aB0 ps ls l N ow sl bu lf nu de=(0,σ,N',sq)):∃τ,aQi ps ls l N ow sl bu lf nu de σ N' sq τ:=by
 unfold aB0 at h
 by_cases hm:(Of.mk 0 ow sl bu lf nu de).may
 ·rw[if_neg (fun q=>q hm)]at h
  by_cases hp:ow∉ps
  ·rw[if_pos hp]at h;exact absurd (congrArg Prod.fst h) (by show ¬(7:Int)=0;decide)
  rw[if_neg hp]at h;obtain⟨r,hr⟩:∃r,aBl ps ow sl bu nu de 64 ⟨ls,l,[],lf⟩=r:=⟨_,rfl⟩;obtain⟨e,τ⟩:=r;have hinv:=aE6.ends (ow:=ow) (sl:=sl) (bu:=bu) (nu:=nu) (de:=de) 64 (aE6.start hI hJ (ow:=ow) (sl:=sl) (bu:=bu) (nu:=nu) (de:=de) (n0:=lf) (by have:=hm.2.2.2.2.1.1;show 0≤lf;exact Int.le_trans (by decide) this));rw[hr]at h hinv;unfold aDb at h
  by_cases he:e=0
  ·subst he;rw[if_neg (by simp)]at h;refine⟨τ,hm,Decidable.not_not.1 hp,hinv,hr,?_⟩;have hnn:=hinv.nn
   by_cases hz:τ.n≤0
   ·rw[if_pos hz]at h;obtain⟨_,h2⟩:=Prod.mk.inj h;obtain⟨h3,h4⟩:=Prod.mk.inj h2;obtain⟨h5,h6⟩:=Prod.mk.inj h4;exact .inl ⟨by show τ.n=0;have q:0≤τ.n:=hnn;omega,h3.symm,h5.symm,h6.symm⟩
   rw[if_neg hz]at h;obtain⟨h1,h2⟩:=Prod.mk.inj h;obtain⟨h3,h4⟩:=Prod.mk.inj h2;obtain⟨h5,h6⟩:=Prod.mk.inj h4;have h1':aBw τ.l ⟨N,ow,sl,bu,τ.n,nu,de⟩=0:=h1;rcases aQb 64 hr with q|q
   ·exact absurd q hz
   refine .inr ⟨by omega,q,h1',?_,?_,?_⟩
   ·rw[←h3];show _=_;simp only[aB8,h1',if_true]
   ·rw[←h5];show aBo τ.l _=_;unfold aBo;rw[if_pos h1']
   rw[←h6];show aCo τ.l _=_;unfold aCo;rw[if_pos h1']
  rw[if_pos (by simpa using he)]at h;exact absurd (congrArg Prod.fst h) (by simpa using he)
 rw[if_pos hm]at h;exact absurd (congrArg Prod.fst h) (by show ¬(1:Int)=0;decide)
theorem aQi.rate{ps:List Int}{ls:List Ln}{l:List Of}{N ow sl bu lf nu de:Int}{σ:SwS}{N' sq:Int}{τ:SwS}(h:aQi ps ls l N ow sl bu lf nu de σ N' sq τ){f:Fl}(hf:f∈τ.fs):(f.gi - 1)*nu<f.got*de:=by
 obtain⟨o,_,_,_,_,_,hc,⟨g1,_⟩,_,e,hm⟩:=h.inv.fs f hf;rw[e];exact rate_more hm h.may.2.2.2.2.2 hc g1
theorem aQi.next{ps:List Int}{ls:List Ln}{l:List Of}{N ow sl bu lf nu de:Int}{σ:SwS}{N' sq:Int}{τ:SwS}(h:aQi ps ls l N ow sl bu lf nu de σ N' sq τ):LInv ps σ.ls∧BInv σ.l N'∧σ.fs=τ.fs:=by
 rcases h.ends with⟨_,rfl,rfl,_⟩|⟨_,_,e,rfl,rfl,_⟩
 ·exact⟨h.inv.linv,h.inv.binv,rfl⟩
 refine⟨h.inv.linv,?_,rfl⟩;have q:=BInv.place (l:=τ.l) (x:=⟨N,ow,sl,bu,τ.n,nu,de⟩) h.inv.binv;unfold aB8 aBo at q;rw[if_pos e,if_pos e]at q;exact q
def aBp:Int→List Int→Int
 | n,[]=>n
 | n,v::vs=>if min n v<1 then 0 else aBp (min n v) vs
structure Bnd(w:World)(rv:Value)(b:Nat×Int):Prop where
 enter:∀args w',(callFunc b.1 args).run Tryz.prog w'=.ok (.enter b.1 args) w'
 call:∀w',Below w.heap.size w w'→Calls Tryz.prog b.1 #[rv] w' fun e w''=>e=.returned (.int .i64 b.2)∧Below w'.heap.size w' w''
theorem Bnd.below{w w':World}{rv:Value}{b:Nat×Int}(h:Bnd w rv b)(k:Below w.heap.size w w'):Bnd w' rv b:=⟨h.enter,fun w2 q=>h.call w2 (andB k q)⟩
def bndV(rv:Value)(b:Nat×Int):Value:=.func (.func b.1) #[rv] #[]
def LeastAt(W:World)(bs:List (Nat×Int))(n i:Value)(wr:World):Prop:=
 ∃(k:Nat) (m:Int),k≤bs.length∧i=.int .i64 k∧n=.int .i64 m∧(m≤1099511627776 ∧ -9223372036854775808≤m)∧Below W.heap.size W wr∧Hid (aBp 1099511627776 (bs.map (·.2))=aBp m ((bs.drop k).map (·.2)))
theorem aQj{w:World}{g:Nat}{rv:Value}{bs:List (Nat×Int)}{t:TypeId}(hk:Blk w g (bs.map (bndV rv)).toArray t)(hb:∀b∈bs,Bnd w rv b)(h64:∀b∈bs,In64 b.2)(hl:bs.length≤100):
  Calls Tryz.prog 81 #[.slice (some ⟨g,0,none⟩) bs.length bs.length] w (yR w (.int .i64 (aBp 1099511627776 (bs.map (·.2))))):=by
 have K:=yH hk;have HB:=yH hb;have H64:=yH h64;clear hk hb h64;go_enter Tryz.func81,Tryz.ntmps81;go_wp2_with fail
 go_loopw [3,8] (LeastAt w bs) (fun _ i _=>bs.length - (intOf i).toNat)
 case atStart=>exact⟨0,_,by omega,rfl,rfl,by omega,yZ,yH rfl⟩
 obtain⟨k,m,hkl,rfl,rfl,⟨m1,m2⟩,hB,HE⟩:=hrel;have BB:=yH hB;clear hB
 by_cases hlt:k<bs.length
 ·have hki:(k:Int)<(bs.length:Int):=by omega
  have hk0:(0:Int)≤(k:Int):=by omega
  have KK:=yH (K.out.below BB.out K.out.lt);have d0:=KK.out.cell k;simp only[List.getElem?_toArray,List.getElem?_map,List.getElem?_eq_getElem hlt,Option.map_some]at d0;have HBk:=yH ((HB.out bs[k] (List.getElem_mem _)).below BB.out);have h64:=H64.out bs[k] (List.getElem_mem _);have HD:Hid (bs.drop k=bs[k]::bs.drop (k+1)):=yH (List.drop_eq_getElem_cons hlt);generalize bs[k]=b at *;obtain⟨f,v⟩:=b;unfold bndV at d0;dsimp only at d0 h64;have hv1:=h64.1;have hv2:=h64.2;clear h64;have CB:=yH (HBk.out.call wr yZ);have EN:=HBk.out.enter #[rv] wr;dsimp only at CB EN;have HM:Hid (aBp m (((f,v)::bs.drop (k+1)).map (·.2))=if min m v<1 then 0 else aBp (min m v) ((bs.drop (k+1)).map (·.2))):=yH rfl;clear HBk;go_wp2_with fail;refine CB.out.mono ?_;rintro e w1 ⟨rfl,b1⟩;have B1:=yT BB b1;clear b1 CB EN d0
  by_cases hz:min m v<1
  ·have q1:decide (min m v<1)=true:=by simpa using hz
   have HZ:=yH hz;clear hz;go_wp2_with fail;go_ret;exact⟨by rw[HE.out,HD.out,HM.out.trans (if_pos HZ.out)];rfl,B1.out⟩
  have q1:decide (min m v<1)=false:=by simpa using hz
  have HZ:=yH hz;clear hz;go_wp2_with fail;exact⟨⟨k+1,_,by omega,by go_num,rfl,by omega,B1.out,yH (by rw[HE.out,HD.out];exact HM.out.trans (if_neg (by have:=HZ.out;omega)))⟩,by simp[intOf];omega⟩
 have hkn:k=bs.length:=by omega
 subst hkn;have HM:Hid (aBp m ((bs.drop bs.length).map (·.2))=m):=yH (by rw[List.drop_length];rfl);go_wp2_with fail;go_ret;exact⟨by rw[HE.out,HM.out];rfl,BB.out⟩
abbrev filV(lp:Option Addr)(o:Of)(tk pt want most:Int):Value:=.agg #[.pointer lp,.int .u64 o.se,.int .u8 o.ow,.int .u8 o.sl,.int .u8 o.bu,.int .i64 o.lf,.int .i64 o.nu,.int .i64 o.de,.int .u8 tk,.int .u8 pt,.int .i64 want,.int .i64 most]
abbrev filC(lp:Option Addr)(o:Of)(tk pt want most:Int):Array Value:=#[.pointer lp,.int .u64 o.se,.int .u8 o.ow,.int .u8 o.sl,.int .u8 o.bu,.int .i64 o.lf,.int .i64 o.nu,.int .i64 o.de,.int .u8 tk,.int .u8 pt,.int .i64 want,.int .i64 most]
theorem aSr(lp:Option Addr)(o:Of)(tk pt want most:Int)(w:World):Calls Tryz.prog 82 #[filV lp o tk pt want most] w (yR w (.int .i64 want)):=by
 have B:=yH ((Below.refl w.heap.size w).alloc yL (.cells (filC lp o tk pt want most) 146));unfold filV;go_enter Tryz.func82,Tryz.ntmps82;go_wp2_with fail;go_ret;exact⟨rfl,B.out⟩
theorem fleft_any(lp:Option Addr)(o:Of)(tk pt want most:Int)(w:World):Calls Tryz.prog 83 #[filV lp o tk pt want most] w (yR w (.int .i64 o.lf)):=by
 have B:=yH ((Below.refl w.heap.size w).alloc yL (.cells (filC lp o tk pt want most) 146));unfold filV;go_enter Tryz.func83,Tryz.ntmps83;go_wp2_with fail;go_ret;exact⟨rfl,B.out⟩
theorem aQk(lp:Option Addr)(o:Of)(tk pt want most:Int)(w:World):Calls Tryz.prog 135 #[filV lp o tk pt want most] w (yR w (.int .i64 most)):=by
 have B:=yH ((Below.refl w.heap.size w).alloc yL (.cells (filC lp o tk pt want most) 146));unfold filV;go_enter Tryz.func135,Tryz.ntmps135;go_wp2_with fail;go_ret;exact⟨rfl,B.out⟩
theorem fsold_any(HM:aEf){w:World}{G M:Nat}{ps:List Int}{ls:List Ln}{o:Of}(h:LedM w G M ps ls)(hI:LInv ps ls)(hf:o.Fits)(tk pt want most:Int)(hp:In8 pt){m1 m2:Int}(g:Goes ps ls o tk pt m1 m2):
  Calls Tryz.prog 84 #[filV (some ⟨G,0,none⟩) o tk pt want most] w fun e w'=>e=.returned (.int .i64 (if pt=o.ow then 1099511627776 else m1))∧Below w.heap.size w w':=by
 have bw:=(Below.refl w.heap.size w).alloc yL (.cells (filC (some ⟨G,0,none⟩) o tk pt want most) 146);have B:=yH bw;obtain⟨⟨μ,h1,h2⟩,_⟩:=g;have CM:=yH (aMs HM (h.below bw) hI hf.ow hp hf.sl h1);rw[h2]at CM;clear bw h hI hf hp h1 h2;unfold filV
 by_cases he:pt=o.ow
 ·rw[if_pos he];subst he;clear CM;go_enter Tryz.func84,Tryz.ntmps84;go_wp2_with fail;go_ret;exact⟨rfl,B.out⟩
 rw[if_neg he];have q0:(pt==o.ow)=false:=by simpa using he
 clear he;go_enter Tryz.func84,Tryz.ntmps84;go_wp2_with fail;refine CM.out.mono ?_;rintro e w1 ⟨rfl,b1⟩;have B1:=yT B b1;clear b1;go_wp2_with fail;go_ret;exact⟨rfl,B1.out⟩
theorem aSs(HM:aEf){w:World}{G M:Nat}{ps:List Int}{ls:List Ln}{o:Of}(h:LedM w G M ps ls)(hI:LInv ps ls)(hf:o.Fits)(tk pt want most:Int)(ht:In8 tk){m1 m2:Int}(g:Goes ps ls o tk pt m1 m2):
  Calls Tryz.prog 136 #[filV (some ⟨G,0,none⟩) o tk pt want most] w (yR w (.int .i64 m2)):=by
 have bw:=(Below.refl w.heap.size w).alloc yL (.cells (filC (some ⟨G,0,none⟩) o tk pt want most) 146);have B:=yH bw;obtain⟨_,μ,h1,h2⟩:=g;have CM:=yH (aMs HM (h.below bw) hI ht hf.ow hf.bu h1);rw[h2]at CM;clear bw h hI hf ht h1 h2;unfold filV;go_enter Tryz.func136,Tryz.ntmps136;go_wp2_with fail;refine CM.out.mono ?_;rintro e w1 ⟨rfl,b1⟩;have B1:=yT B b1;clear b1;go_wp2_with fail;go_ret;exact⟨rfl,B1.out⟩
end Go.Proofs.YtaeocliklpcgmaaGreat
