/- Pieces of one proof. -/
import Derived.Test.YtaeocliklpcgmaaGreatP07
import Derived.Test.YtaeocliklpcgmaaGreatP12
import Derived.Laws.EntriesVeiled
import Derived.WalkSmall
set_option linter.all false
set_option maxHeartbeats 64000000
set_option maxRecDepth 100000
namespace Go.Proofs.YtaeocliklpcgmaaGreat
open Go.RowKit
def actL(x:Ac)(σ:List Int×List Ln):List Int×List Ln:=
 if x.k%8=0 then(aDy σ.1 x.a,σ.2)else if x.k%8≤2 then(σ.1,aAw σ.1 σ.2 x.a x.b x.c x.n)else if x.k%8≤5 then(σ.1,aCq σ.1 σ.2 x.a x.b x.c x.n)else if x.k%8=6 then(σ.1,aBb σ.2 x.a x.b x.c x.n)else σ
def aNy(xs:List Ac):List Int×List Ln:=xs.foldl (fun σ x=>actL x σ) ([],[])
theorem aMp{xs:List Ac}{k:Nat}(h:k<xs.length){ps:List Int}{ls:List Ln}(e:aNy (xs.take k)=(ps,ls)):aNy (xs.take (k+1))=actL xs[k] (ps,ls):=by
 unfold aNy at *;rw[List.take_succ_eq_append_getElem h,List.foldl_append,e];rfl
def MadeAt(w:World)(G M len:Nat)(xs:List Ac)(i:Value)(wr:World):Prop:=
 ∃k:Nat,k≤len∧i=.int .i64 k∧∃ps ls,LedM wr G M ps ls∧LInv ps ls∧Below w.heap.size w wr∧Hid (aNy (xs.take k)=(ps,ls))
def MadePostF(w:World)(xs:List Ac)(e:Ending)(w':World):Prop:=
 ∃G M ps ls,e=.returned (.pointer (some ⟨G,0,none⟩))∧LedM w' G M ps ls∧LInv ps ls∧w.heap.size≤G∧w.heap.size≤M∧Below w.heap.size w w'∧aNy xs=(ps,ls)
theorem made_actsF{w:World}{a:Option Addr}{len cap:Nat}{xs:List Ac}(h:aHb w a len cap xs)(hl:len≤120):
  Calls Tryz.prog 37 #[.slice a len cap] w (MadePostF w xs):=by
 have HA:=yH h;have hxl:xs.length=len:=h.1;have hmax:=h.2.2.2.1;unfold maxLen at hmax;clear h;go_enter Tryz.func37,Tryz.ntmps37;go_wp2_with fail;refine(new_any w).mono ?_;rintro e w0 ⟨G,M,rfl,h0,hG,hM,hb0⟩;have H0:=yH h0;have B0:=yH hb0;clear h0 hb0;go_wp2_with fail
 go_loopw [4] (MadeAt w G M len xs) (fun i _=>len - (intOf i).toNat)
 case atStart=>exact⟨0,Nat.zero_le _,rfl,[],[],H0.out,LInv.nil,B0.out,yH rfl⟩
 obtain⟨k,hk,rfl,ps,ls,hL,hI,hB,hAct⟩:=hrel;have HL:=yH hL;have HI:=yH hI;have HB:=yH hB;clear hL hI hB
 by_cases hkl:k<len
 ·obtain⟨b,off,rfl,hb,d0,d1,d2,d3,d4⟩:=(HA.out.below HB.out).at (i:=k) (by omega);have hx:=HA.out.2.1 xs[k] (List.getElem_mem _);have AT:=yH (aMp (by omega) hAct.out);generalize hxe:xs[k]=x at *;clear hxe;obtain⟨k1,k2⟩:=hx.k;have bw:=(Below.refl wr.heap.size wr).alloc yL (.cells #[.int .u8 x.k,.int .u8 x.a,.int .u8 x.b,.int .u8 x.c,.int .i64 x.n] 99);have HW:=yH (HL.out.below bw);have BW:=yT HB bw;clear bw;have hs:x.k%8=0∨x.k%8=1∨x.k%8=2∨x.k%8=3∨x.k%8=4∨x.k%8=5∨x.k%8=6∨x.k%8=7:=by omega
  rcases hs with hj|hj|hj|hj|hj|hj|hj|hj
  ·have AN:=yH (AT.out.trans (show actL x (ps,ls)=(aDy ps x.a,ls) by unfold actL;simp[hj]));have q2:x.k.tmod 8=0:=by rw[Int.tmod_eq_emod_of_nonneg hx.k.1];exact hj
   clear hj;have C:=yH (aKg HW.out HI.out.bd x.a);have HI2:=yH (pAL HI.out x.a);clear hx;go_wp2_with fail;refine C.out.mono ?_;rintro e w2 ⟨rfl,h2,k2⟩;have H2:=yH h2;have B2:=yH (BW.out.trans (k2.below BW.out.size (fun b hb e=>by omega)));clear h2 k2 C;go_wp2_with fail;go_roundw
   case rel=>exact⟨k+1,by omega,by go_num,_,_,H2.out,HI2.out,B2.out,AN⟩
   case measure=>simp[intOf];omega
  ·have AN:=yH (AT.out.trans (show actL x (ps,ls)=(ps,aAw ps ls x.a x.b x.c x.n) by unfold actL;simp[hj]));have q2:x.k.tmod 8=1:=by rw[Int.tmod_eq_emod_of_nonneg hx.k.1];exact hj
   clear hj;have C:=yH (aFh (a:=x.a) (b:=x.b) (c:=x.c) (n:=x.n) HW.out HI.out hx.a hx.b hx.c);have HI2:=yH (pAK HI.out x.a x.b x.c x.n);clear hx;go_wp2_with fail;refine C.out.mono ?_;rintro e w2 ⟨rfl,h2,k2⟩;have H2:=yH h2;have B2:=yH (BW.out.trans (k2.below BW.out.size (fun b hb e=>by omega)));clear h2 k2 C;go_wp2_with fail;go_roundw
   case rel=>exact⟨k+1,by omega,by go_num,_,_,H2.out,HI2.out,B2.out,AN⟩
   case measure=>simp[intOf];omega
  ·have AN:=yH (AT.out.trans (show actL x (ps,ls)=(ps,aAw ps ls x.a x.b x.c x.n) by unfold actL;simp[hj]));have q2:x.k.tmod 8=2:=by rw[Int.tmod_eq_emod_of_nonneg hx.k.1];exact hj
   clear hj;have C:=yH (aFh (a:=x.a) (b:=x.b) (c:=x.c) (n:=x.n) HW.out HI.out hx.a hx.b hx.c);have HI2:=yH (pAK HI.out x.a x.b x.c x.n);clear hx;go_wp2_with fail;refine C.out.mono ?_;rintro e w2 ⟨rfl,h2,k2⟩;have H2:=yH h2;have B2:=yH (BW.out.trans (k2.below BW.out.size (fun b hb e=>by omega)));clear h2 k2 C;go_wp2_with fail;go_roundw
   case rel=>exact⟨k+1,by omega,by go_num,_,_,H2.out,HI2.out,B2.out,AN⟩
   case measure=>simp[intOf];omega
  ·have AN:=yH (AT.out.trans (show actL x (ps,ls)=(ps,aCq ps ls x.a x.b x.c x.n) by unfold actL;simp[hj]));have q2:x.k.tmod 8=3:=by rw[Int.tmod_eq_emod_of_nonneg hx.k.1];exact hj
   clear hj;have C:=yH (aIg (a:=x.a) (b:=x.b) (c:=x.c) (n:=x.n) HW.out HI.out hx.a hx.b hx.c hx.n);have HI2:=yH (LInv.push HI.out x.a x.b x.c x.n);clear hx;go_wp2_with fail;refine C.out.mono ?_;rintro e w2 ⟨rfl,h2,k2⟩;have H2:=yH h2;have B2:=yH (BW.out.trans (k2.below BW.out.size (fun b hb e=>by omega)));clear h2 k2 C;go_wp2_with fail;go_roundw
   case rel=>exact⟨k+1,by omega,by go_num,_,_,H2.out,HI2.out,B2.out,AN⟩
   case measure=>simp[intOf];omega
  ·have AN:=yH (AT.out.trans (show actL x (ps,ls)=(ps,aCq ps ls x.a x.b x.c x.n) by unfold actL;simp[hj]));have q2:x.k.tmod 8=4:=by rw[Int.tmod_eq_emod_of_nonneg hx.k.1];exact hj
   clear hj;have C:=yH (aIg (a:=x.a) (b:=x.b) (c:=x.c) (n:=x.n) HW.out HI.out hx.a hx.b hx.c hx.n);have HI2:=yH (LInv.push HI.out x.a x.b x.c x.n);clear hx;go_wp2_with fail;refine C.out.mono ?_;rintro e w2 ⟨rfl,h2,k2⟩;have H2:=yH h2;have B2:=yH (BW.out.trans (k2.below BW.out.size (fun b hb e=>by omega)));clear h2 k2 C;go_wp2_with fail;go_roundw
   case rel=>exact⟨k+1,by omega,by go_num,_,_,H2.out,HI2.out,B2.out,AN⟩
   case measure=>simp[intOf];omega
  ·have AN:=yH (AT.out.trans (show actL x (ps,ls)=(ps,aCq ps ls x.a x.b x.c x.n) by unfold actL;simp[hj]));have q2:x.k.tmod 8=5:=by rw[Int.tmod_eq_emod_of_nonneg hx.k.1];exact hj
   clear hj;have C:=yH (aIg (a:=x.a) (b:=x.b) (c:=x.c) (n:=x.n) HW.out HI.out hx.a hx.b hx.c hx.n);have HI2:=yH (LInv.push HI.out x.a x.b x.c x.n);clear hx;go_wp2_with fail;refine C.out.mono ?_;rintro e w2 ⟨rfl,h2,k2⟩;have H2:=yH h2;have B2:=yH (BW.out.trans (k2.below BW.out.size (fun b hb e=>by omega)));clear h2 k2 C;go_wp2_with fail;go_roundw
   case rel=>exact⟨k+1,by omega,by go_num,_,_,H2.out,HI2.out,B2.out,AN⟩
   case measure=>simp[intOf];omega
  ·have AN:=yH (AT.out.trans (show actL x (ps,ls)=(ps,aBb ls x.a x.b x.c x.n) by unfold actL;simp[hj]));have q2:x.k.tmod 8=6:=by rw[Int.tmod_eq_emod_of_nonneg hx.k.1];exact hj
   clear hj;have C:=yH (aRy (a:=x.a) (b:=x.b) (c:=x.c) (n:=x.n) HW.out HI.out.inv hx.a hx.b hx.c hx.n);have HI2:=yH (pAJ HI.out x.a x.b x.c x.n);clear hx;go_wp2_with fail;refine C.out.mono ?_;rintro e w2 ⟨rfl,h2,k2⟩;have H2:=yH h2;have B2:=yH (BW.out.trans (k2.below BW.out.size (fun b hb e=>by omega)));clear h2 k2 C;go_wp2_with fail;go_roundw
   case rel=>exact⟨k+1,by omega,by go_num,_,_,H2.out,HI2.out,B2.out,AN⟩
   case measure=>simp[intOf];omega
  have AN:=yH (AT.out.trans (show actL x (ps,ls)=(ps,ls) by unfold actL;simp[hj]));have q2:x.k.tmod 8=7:=by rw[Int.tmod_eq_emod_of_nonneg hx.k.1];exact hj
  clear hj;clear hx;go_wp2_with fail;go_roundw
  case rel=>exact⟨k+1,by omega,by go_num,ps,ls,HW.out,HI.out,BW.out,AN⟩
  case measure=>simp[intOf];omega
 go_wp2_with fail;refine bodyPost_ret (v:=.pointer (some ⟨G,0,none⟩)) (by simp[results,Tryz.results37,go_sem]) rfl ?_;exact⟨G,M,ps,ls,rfl,HL.out,HI.out,hG,hM,HB.out,by have:=hAct.out;rwa [List.take_of_length_le (by omega)]at this⟩
def aB1(ps:List Int)(ls:List Ln)(c a b:Int):Int:=aBm ps ls a b c
theorem aAx{ps:List Int}{ls:List Ln}(h:LInv ps ls)(c:Int):GInv (aB1 ps ls c) 4398046511104:=by
 refine⟨fun p q=>(aJ6 h.inv.good p q c).1,fun p q=>?_,fun p q hi=>?_,fun p=>?_⟩
 ·have h1:=(aJ6 (ps:=ps) h.inv.good p q c).2;have h2:=(aJ6 (ps:=ps) h.inv.good q p c).2;unfold aB1;omega
 ·unfold aB1 aBm;rw[if_pos]
  by_cases h1:p∈ps
  ·by_cases h2:q∈ps
   ·exact absurd ⟨h.bd p h1,h.bd q h2⟩ hi
   exact .inr (.inr h2)
  exact .inr (.inl h1)
 unfold aB1 aBm;rw[if_pos (.inl rfl)]
theorem gof_led{w:World}{G M:Nat}{ps:List Int}{ls:List Ln}(h:LedM w G M ps ls)(hI:LInv ps ls){c:Int}(hc:In8 c):
  Calls Tryz.prog 184 #[.pointer (some ⟨G,0,none⟩),.int .u8 c] w fun e w'=>e=.returned (.pointer (some ⟨w.heap.size,0,none⟩))∧Blk w' w.heap.size (graC (aB1 ps ls c) true) 268∧Below w.heap.size w w':=
 gof_any fun w' k p q hp hq=>room_any (h.below k) hI hp hq hc
theorem aMq{ps:List Int}{ls:List Ln}(h:Inv ls){a b c n:Int}(h1:1≤n)(hr:n≤aBm ps ls a b c){p q d:Int}
  (k1:¬(a=p∧b=q∧c=d))(k2:¬(a=q∧b=p∧c=d)):aBm ps (aB5 ls a b c n) p q d=aBm ps ls p q d:=by
 have hz:¬(a=b∨a∉ps∨b∉ps):=by
  intro hz;unfold aBm at hr;rw[if_pos hz]at hr;omega
 have hr2:=hr;unfold aBm at hr2;rw[if_neg hz]at hr2;obtain⟨_,_,h3,_⟩:=aFf h (fun e=>hz (.inl e)) h1 hr2
 have e1:lnAt (aB5 ls a b c n) p q d=lnAt ls p q d:=by
  unfold lnAt;rw[h3 p q d,if_neg k1,if_neg (fun e=>k2 ⟨e.2.1,e.1,e.2.2⟩)]
 have e2:lnAt (aB5 ls a b c n) q p d=lnAt ls q p d:=by
  unfold lnAt;rw[h3 q p d,if_neg k2,if_neg (fun e=>k1 ⟨e.2.1,e.1,e.2.2⟩)]
 unfold aBm;rw[e1,e2]
theorem room_push{ps:List Int}{ls:List Ln}(h:LInv ps ls)(a b c n:Int):aB1 ps (aCq ps ls a b c n) c=aF1 (aB1 ps ls c) a b n:=by
 funext p q
 unfold aF1
 by_cases hc:1≤n∧n≤aB1 ps ls c a b
 ·rw[if_pos hc];obtain⟨h1,h2⟩:=hc;have h2':n≤aBm ps ls a b c:=h2;have he:aCz ps ls a b c n=0:=by unfold aCz;rw[if_neg (by omega),if_neg (by omega)]
  have hl:aCq ps ls a b c n=aB5 ls a b c n:=by unfold aCq;rw[if_pos he]
  rw[hl];obtain⟨r1,r2⟩:=push_room (ps:=ps) h.inv h1 h2';unfold aCd aB1
  by_cases c1:p=b∧q=a
  ·rw[if_pos c1,c1.1,c1.2];exact r2
  rw[if_neg c1]
  by_cases c2:p=a∧q=b
  ·rw[if_pos c2,c2.1,c2.2];exact r1
  rw[if_neg c2];exact aMq h.inv h1 h2' (fun e=>c2 ⟨e.1.symm,e.2.1.symm⟩) (fun e=>c1 ⟨e.2.1.symm,e.1.symm⟩)
 rw[if_neg hc]
 have he:aCz ps ls a b c n≠0:=by
  unfold aCz;have hc':¬(1≤n∧n≤aBm ps ls a b c):=hc;split
  ·decide
  split
  ·decide
  exact absurd ⟨by omega,by omega⟩ hc'
 unfold aCq;rw[if_neg he]
theorem room_else{ps:List Int}{ls:List Ln}(h:LInv ps ls)(a b n:Int){c d:Int}(hd:c≠d):aB1 ps (aCq ps ls a b c n) d=aB1 ps ls d:=by
 funext p q
 unfold aCq
 by_cases he:aCz ps ls a b c n=0
 ·rw[if_pos he];have h1:1≤n∧n≤aBm ps ls a b c:=by unfold aCz at he;(repeat' split at he) <;> omega
  exact aMq h.inv h1.1 h1.2 (fun e=>hd e.2.2) (fun e=>hd e.2.2)
 rw[if_neg he]
def aCf(ps:List Int)(c:Int)(ls:List Ln)(l:List Fw):List Ln:=l.foldl (fun ls x=>aCq ps ls x.fr x.tt c x.am) ls
theorem aJm{ps:List Int}{c:Int}{ls:List Ln}{l:List Fw}{k:Nat}(h:k<l.length):aCf ps c ls (l.take (k+1))=aCq ps (aCf ps c ls (l.take k)) l[k].fr l[k].tt c l[k].am:=by
 unfold aCf;rw[List.take_succ_eq_append_getElem h,List.foldl_append];rfl
theorem aEq{ps:List Int}{c:Int}:∀(l:List Fw) {ls:List Ln},LInv ps ls→LInv ps (aCf ps c ls l)
 | [],_,h=>h
 | x::l,_,h=>aEq l (h.push x.fr x.tt c x.am)
theorem aJn{ps:List Int}{c d:Int}(hd:c≠d):∀(l:List Fw) {ls:List Ln},LInv ps ls→aB1 ps (aCf ps c ls l) d=aB1 ps ls d
 | [],_,_=>rfl
 | x::l,ls,h=>by
  show aB1 ps (aCf ps c (aCq ps ls x.fr x.tt c x.am) l) d=_;rw[aJn hd l (h.push _ _ _ _),room_else h _ _ _ hd]
def limL(ls:List Ln):List Ln:=ls.map fun x=>x.owe 0
theorem push_lims{ls:List Ln}(h:Inv ls){a b c n:Int}(hab:a≠b)(h1:1≤n)(hr:n≤(lnAt ls a b c).db+(lnAt ls b a c).li - (lnAt ls b a c).db):limL (aB5 ls a b c n)=limL ls:=by
 obtain⟨i,_,f,_⟩:=aFf h hab h1 hr
 have hs:∀{m:List Ln},m.Pairwise (fun x y=>x.rank<y.rank)→(limL m).Pairwise (fun x y=>x.rank<y.rank):=fun{m} hm=>by
  unfold limL;rw[List.pairwise_map];exact hm
 refine aFe _ _ (hs i.sorted) (hs h.sorted) fun z=>?_
 unfold limL;rw[List.mem_map,List.mem_map]
 constructor
 ·rintro⟨y,hy,rfl⟩;have hl:=(aCe i y.cr y.de y.cu y).2 ⟨hy,rfl,rfl,rfl⟩;rw[f]at hl;split at hl
  ·obtain⟨x,hx,e⟩:=Option.map_eq_some_iff.1 hl;exact⟨x,(aAy hx).1,by rw[←e];rfl⟩
  split at hl
  ·obtain⟨x,hx,e⟩:=Option.map_eq_some_iff.1 hl;exact⟨x,(aAy hx).1,by rw[←e];rfl⟩
  exact⟨y,(aAy hl).1,rfl⟩
 rintro⟨x,hx,rfl⟩;have hl:=(aCe h x.cr x.de x.cu x).2 ⟨hx,rfl,rfl,rfl⟩;have hf:=f x.cr x.de x.cu;split at hf
 ·rename_i k;obtain⟨k1,k2,k3⟩:=k;rw[←k1,←k2,←k3]at hl;rw[hl]at hf;exact⟨_,(aAy hf).1,rfl⟩
 split at hf
 ·rename_i k;obtain⟨k1,k2,k3⟩:=k;rw[←k1,←k2,←k3]at hl;rw[hl]at hf;exact⟨_,(aAy hf).1,rfl⟩
 rw[hl]at hf;exact⟨x,(aAy hf).1,rfl⟩
theorem aPn{ps:List Int}{ls:List Ln}{a b c n:Int}(h1:1≤n)(hr:n≤aBm ps ls a b c):aCq ps ls a b c n=aB5 ls a b c n∧a≠b∧n≤(lnAt ls a b c).db+(lnAt ls b a c).li - (lnAt ls b a c).db:=by
 have hz:¬(a=b∨a∉ps∨b∉ps):=by
  intro hz;unfold aBm at hr;rw[if_pos hz]at hr;omega
 have hr2:=hr;unfold aBm at hr2;rw[if_neg hz]at hr2;have he:aCz ps ls a b c n=0:=by unfold aCz;rw[if_neg (by omega),if_neg (by omega)]
 exact⟨by unfold aCq;rw[if_pos he],fun e=>hz (.inl e),hr2⟩
theorem aGi{ps:List Int}{c:Int}:∀(l:List Fw) {ls:List Ln},LInv ps ls→limL (aCf ps c ls l)=limL ls
 | [],_,_=>rfl
 | x::l,ls,h=>by
  show limL (aCf ps c (aCq ps ls x.fr x.tt c x.am) l)=_;rw[aGi l (h.push _ _ _ _)]
  by_cases he:aCz ps ls x.fr x.tt c x.am=0
  ·have h1:1≤x.am∧x.am≤aBm ps ls x.fr x.tt c:=by unfold aCz at he;(repeat' split at he) <;> omega
   obtain⟨e,k1,k2⟩:=aPn h1.1 h1.2;rw[e];exact push_lims h.inv k1 h1.1 k2
  unfold aCq;rw[if_neg he]
theorem aMr{x:Ln}{p c:Int}(h:x.cu≠c):aIu p c x=0:=by unfold aIu;rw[if_neg h]
theorem aNz{ls:List Ln}(h:Inv ls){a b c n:Int}(hab:a≠b)(h1:1≤n)(hr:n≤(lnAt ls a b c).db+(lnAt ls b a c).li - (lnAt ls b a c).db)(p:Int){d:Int}(hd:c≠d):posL (aB5 ls a b c n) p d=posL ls p d:=by
 obtain⟨_,_,_,hs⟩:=aFf h hab h1 hr;unfold posL;rw[hs (aIu p d) (aI5 p d)]
 have key:∀a b m,aIu p d ((lnAt ls a b c).owe m)=aIu p d (lnAt ls a b c):=by
  intro a b m
  cases hl:aAq ls a b c with
  | none=>rw[aBa hl];unfold aIu noLn Ln.owe;simp
  | some x=>
   have hc:=(aAy hl).2.2.2;rw[aA1 hl,aMr (x:=x) (by omega),aMr (x:=x.owe m) (by show x.cu≠d;omega)]
 rw[key,key];omega
theorem aLh{ps:List Int}{c:Int}(p:Int):∀(l:List Fw) {ls:List Ln},LInv ps ls→aIb (aB1 ps ls c) l→∀d,posL (aCf ps c ls l) p d=posL ls p d+(if d=c then netL l p else 0)
 | [],ls,_,_,d=>by show posL ls p d=posL ls p d+(if d=c then 0 else 0);split <;> omega
 | x::l,ls,h,⟨h1,h2,h3⟩,d=>by
  have e:aB1 ps (aCq ps ls x.fr x.tt c x.am) c=aCd (aB1 ps ls c) x.fr x.tt x.am:=by
   rw[room_push h];unfold aF1;rw[if_pos ⟨h1,h2⟩]
  show posL (aCf ps c (aCq ps ls x.fr x.tt c x.am) l) p d=_;rw[aLh p l (h.push _ _ _ _) (by rw[e];exact h3) d];obtain⟨k,k1,k2⟩:=aPn (ps:=ps) (ls:=ls) h1 h2;rw[k]
  by_cases hd:d=c
  ·subst hd;rw[if_pos rfl,if_pos rfl,push_pos (ps:=ps) h.inv h1 h2 p];show _=_+((if x.tt=p then x.am else 0) - (if x.fr=p then x.am else 0)+netL l p);have e1:(if p=x.fr then x.am else 0)=(if x.fr=p then x.am else 0):=by simp only[eq_comm]
   have e2:(if p=x.tt then x.am else 0)=(if x.tt=p then x.am else 0):=by simp only[eq_comm]
   rw[e1,e2];omega
  rw[if_neg hd,if_neg hd,aNz h.inv k1 h1 k2 p (fun e=>hd e.symm)]
theorem aAk.good{f0:Int→Int→Int}{B s t want:Int}{σ:RS}(h:aAk f0 B s t want σ):aIb f0 σ.out∧aJz f0 σ.out=σ.f:=by
 obtain⟨k,h,_⟩:=h;exact⟨h.good,h.fold⟩
theorem aAk.net{f0:Int→Int→Int}{B s t want:Int}{σ:RS}(h:aAk f0 B s t want σ)(p:Int):netL σ.out p=(if t=p then want - σ.left else 0) - (if s=p then want - σ.left else 0):=by
 obtain⟨k,h,_⟩:=h;exact h.net p
theorem aAk.els{f0:Int→Int→Int}{B s t want:Int}{σ:RS}(h:aAk f0 B s t want σ):∀e∈σ.out,inP e.fr∧inP e.tt∧e.fr≠e.tt∧1≤e.am∧e.am≤B:=by
 obtain⟨k,h,_⟩:=h;exact h.els
def aDg(a b c n:Int):Prop:=inP a∧inP b∧a≠b∧1≤c∧c≤8∧1≤n∧n≤1099511627776
instance(a b c n:Int):Decidable (aDg a b c n):=by unfold aDg;infer_instance
def aDr(e0:Int)(has:Int→Bool)(a b c n got:Int):Int:=if e0=2 then 2 else if ¬aDg a b c n then 1 else if has a=false∨has b=false then 7 else if got<n then 11 else 0
theorem aLi(has:Int→Bool)(a b c n got:Int):(aDr 1 has a b c n got=1∧¬aDg a b c n)∨(aDr 1 has a b c n got=7∧aDg a b c n∧(has a=false∨has b=false))∨(aDr 1 has a b c n got=11∧aDg a b c n∧has a=true∧has b=true∧got<n)∨(aDr 1 has a b c n got=0∧aDg a b c n∧has a=true∧has b=true∧¬got<n):=by
 unfold aDr;rw[if_neg (by decide)]
 by_cases h1:aDg a b c n
 ·rw[if_neg (by simpa using h1)]
  by_cases h2:has a=false∨has b=false
  ·rw[if_pos h2];exact .inr (.inl ⟨rfl,h1,h2⟩)
  rw[if_neg h2];have h3:has a=true∧has b=true:=by simpa using h2
  by_cases h4:got<n
  ·rw[if_pos h4];exact .inr (.inr (.inl ⟨rfl,h1,h3.1,h3.2,h4⟩))
  rw[if_neg h4];exact .inr (.inr (.inr ⟨rfl,h1,h3.1,h3.2,h4⟩))
 rw[if_pos h1];exact .inl ⟨rfl,h1⟩
def payE(ps:List Int)(a b c n:Int)(σ:RS):Int:=aDr 1 (fun p=>decide (p∈ps)) a b c n (n - σ.left)
def payN(ps:List Int)(a b c n:Int)(σ:RS):Int:=if payE ps a b c n σ=0 then(σ.out.length:Int)else 0
def payL(ps:List Int)(ls:List Ln)(a b c n:Int)(σ:RS):List Ln:=if payE ps a b c n σ=0 then aCf ps c ls σ.out else ls
theorem aIi{ps:List Int}{ls:List Ln}(h:LInv ps ls)(a b c n:Int)(σ:RS):LInv ps (payL ps ls a b c n σ):=by
 unfold payL;split
 ·exact aEq _ h
 exact h
theorem ymay_any(p:Int)(w:World):Calls Tryz.prog 237 #[.int .u8 p] w (yS w (.bool (mayG p))):=by
 have hs:(¬1≤p∧mayG p=false)∨(1≤p∧p≤16∧mayG p=true)∨(1≤p∧¬p≤16∧mayG p=false):=by unfold mayG;simp;omega
 rcases hs with⟨h1,h2⟩|⟨h1,h3,h2⟩|⟨h1,h3,h2⟩
 all_goals
  rw[h2];clear h2;go_enter Tryz.func237,Tryz.ntmps237;go_wp2;go_ret;exact⟨rfl,rfl⟩
theorem pmay9_any(lp:Option Addr)(a b c n:Int)(ao:Option Addr)(k cap:Nat)(got:Int)(w:World):
  Calls Tryz.prog 228 #[.agg #[.pointer lp,.int .u8 a,.int .u8 b,.int .u8 c,.int .i64 n,.slice ao k cap,.int .i64 got]] w (yR w (.bool (decide (aDg a b c n)))):=by
 have B:=yH ((Below.refl w.heap.size w).alloc yL (.cells #[.pointer lp,.int .u8 a,.int .u8 b,.int .u8 c,.int .i64 n,.slice ao k cap,.int .i64 got] 244));have C1:=yH (ymay_any a);have C2:=yH (ymay_any b);obtain⟨r,hr⟩:∃r,decide (aDg a b c n)=r:=⟨_,rfl⟩;rw[hr]
 have hs:(mayG a=false∧r=false)∨(mayG a=true∧mayG b=false∧r=false)∨(mayG a=true∧mayG b=true∧(a==b)=true∧r=false)∨
   (mayG a=true∧mayG b=true∧(a==b)=false∧¬1≤c∧r=false)∨(mayG a=true∧mayG b=true∧(a==b)=false∧1≤c∧¬c≤8∧r=false)∨
   (mayG a=true∧mayG b=true∧(a==b)=false∧1≤c∧c≤8∧¬1≤n∧r=false)∨
   (mayG a=true∧mayG b=true∧(a==b)=false∧1≤c∧c≤8∧1≤n∧decide (n≤1099511627776)=false∧r=false)∨(mayG a=true∧mayG b=true∧(a==b)=false∧1≤c∧c≤8∧1≤n∧n≤1099511627776∧r=true):=by
  have hf:¬aDg a b c n→r=false:=fun h=>by rw[←hr];exact decide_eq_false h
  unfold aDg at hf hr
  by_cases h1:inP a
  ·by_cases h2:inP b
   ·by_cases h3:a=b
    ·exact .inr (.inr (.inl ⟨aBj h1,aBj h2,by simp[h3],hf (fun o=>o.2.2.1 h3)⟩))
    have h3':(a==b)=false:=by simp[h3]
    by_cases h4:1≤c
    ·by_cases h5:c≤8
     ·by_cases h6:1≤n
      ·by_cases h7:n≤1099511627776
       ·exact .inr (.inr (.inr (.inr (.inr (.inr (.inr ⟨aBj h1,aBj h2,h3',h4,h5,h6,h7,by rw[←hr];exact decide_eq_true ⟨h1,h2,h3,h4,h5,h6,h7⟩⟩))))))
       exact .inr (.inr (.inr (.inr (.inr (.inr (.inl ⟨aBj h1,aBj h2,h3',h4,h5,h6,by simp[h7],hf (fun o=>h7 o.2.2.2.2.2.2)⟩))))))
      exact .inr (.inr (.inr (.inr (.inr (.inl ⟨aBj h1,aBj h2,h3',h4,h5,h6,hf (fun o=>h6 o.2.2.2.2.2.1)⟩)))))
     exact .inr (.inr (.inr (.inr (.inl ⟨aBj h1,aBj h2,h3',h4,h5,hf (fun o=>h5 o.2.2.2.2.1)⟩))))
    exact .inr (.inr (.inr (.inl ⟨aBj h1,aBj h2,h3',h4,hf (fun o=>h4 o.2.2.2.1)⟩)))
   exact .inr (.inl ⟨aBj h1,aEj h2,hf (fun o=>h2 o.2.1)⟩)
  exact .inl ⟨aEj h1,hf (fun o=>h1 o.1)⟩
 clear hr;have hneq:(a != b)=!(a==b):=rfl;rcases hs with⟨h1,h2⟩|⟨h1,h3,h2⟩|⟨h1,h3,h4,h2⟩|⟨h1,h3,h4,h5,h2⟩|⟨h1,h3,h4,h5,h6,h2⟩|⟨h1,h3,h4,h5,h6,h7,h2⟩|⟨h1,h3,h4,h5,h6,h7,h8,h2⟩|⟨h1,h3,h4,h5,h6,h7,h8,h2⟩
 ·rw[h1]at C1;rw[h2];clear h1 h2;go_enter Tryz.func228,Tryz.ntmps228;go_wp2_with fail;refine(C1.out _).mono ?_;rintro e w1 ⟨rfl,rfl⟩;go_wp2_with fail;go_ret;exact⟨rfl,B.out⟩
 all_goals
  rw[h1]at C1;rw[h3]at C2;rw[h2];clear h1 h3 h2;go_enter Tryz.func228,Tryz.ntmps228;go_wp2_with fail;refine(C1.out _).mono ?_;rintro e w1 ⟨rfl,rfl⟩;go_wp2_with fail;refine(C2.out _).mono ?_;rintro e w1 ⟨rfl,rfl⟩;go_wp2_with fail;go_ret;exact⟨rfl,B.out⟩
theorem popen0_any{w:World}{g m:Nat}{ps:List Int}{ls:List Ln}(h:LedM w g m ps ls):
  Calls Tryz.prog 34 #[.pointer (some ⟨g,0,none⟩),.int .u8 0] w (yS w (.int .i64 1)):=by
 have C1:=yH (aG2 h.blk);have C2:=yH (aD5 0 w);rw[show mayP 0=false by rfl]at C2;clear h;go_enter Tryz.func34,Tryz.ntmps34;go_wp2_with fail;refine C1.out.mono ?_;rintro e w ⟨rfl,rfl⟩;go_wp2_with fail;refine C2.out.mono ?_;rintro e w ⟨rfl,rfl⟩;go_wp2_with fail;go_ret;exact⟨rfl,rfl⟩
abbrev payV(lp:Option Addr)(a b c n:Int)(ao:Option Addr)(k cap:Nat)(got:Int):Value:=.agg #[.pointer lp,.int .u8 a,.int .u8 b,.int .u8 c,.int .i64 n,.slice ao k cap,.int .i64 got]
structure aE4(w:World)(lp:Option Addr)(e0:Int)(has:Int→Bool):Prop where
 open0:∀w',Below w.heap.size w w'→Calls Tryz.prog 34 #[.pointer lp,.int .u8 0] w' fun e w''=>e=.returned (.int .i64 e0)∧w'=w''
 has:∀w',Below w.heap.size w w'→∀p,Calls Tryz.prog 91 #[.pointer lp,.int .u8 p] w' fun e w''=>e=.returned (.bool (has p))∧w'=w''
theorem aE4.below{w w':World}{lp:Option Addr}{e0:Int}{has:Int→Bool}(h:aE4 w lp e0 has)(k:Below w.heap.size w w'):aE4 w' lp e0 has:=⟨fun w2 q=>h.open0 w2 (andB k q),fun w2 q=>h.has w2 (andB k q)⟩
theorem aHq{w:World}{g m:Nat}{ps:List Int}{ls:List Ln}(h:LedM w g m ps ls)(hI:LInv ps ls):aE4 w (some ⟨g,0,none⟩) 1 (fun p=>decide (p∈ps)):=
 ⟨fun w' k=>popen0_any (h.below k),fun w' k p=>aHp (h.below k).blk hI.bd p⟩
theorem chk1_any{w:World}{lp:Option Addr}{e0:Int}{has:Int→Bool}(h:aE4 w lp e0 has)(a b c n:Int)(ao:Option Addr)(k cap:Nat)(got:Int):
  Calls Tryz.prog 226 #[payV lp a b c n ao k cap got] w (yR w (.bool (e0==2))):=by
 unfold payV;have bw:=(Below.refl w.heap.size w).alloc yL (.cells #[.pointer lp,.int .u8 a,.int .u8 b,.int .u8 c,.int .i64 n,.slice ao k cap,.int .i64 got] 244);have C:=yH (h.open0 _ bw);have B:=yH bw;clear bw h;go_enter Tryz.func226,Tryz.ntmps226;go_wp2_with fail;refine C.out.mono ?_;rintro e w1 ⟨rfl,rfl⟩;go_wp2_with fail;go_ret;exact⟨rfl,B.out⟩
theorem chk2_any(w:World)(lp:Option Addr)(a b c n:Int)(ao:Option Addr)(k cap:Nat)(got:Int):
  Calls Tryz.prog 227 #[payV lp a b c n ao k cap got] w (yR w (.bool (!decide (aDg a b c n)))):=by
 unfold payV;have bw:=(Below.refl w.heap.size w).alloc yL (.cells #[.pointer lp,.int .u8 a,.int .u8 b,.int .u8 c,.int .i64 n,.slice ao k cap,.int .i64 got] 244);have B:=yH bw;have C:=yH (pmay9_any lp a b c n ao k cap got);clear bw;generalize decide (aDg a b c n)=r at *;go_enter Tryz.func227,Tryz.ntmps227;go_wp2_with fail;refine(C.out _).mono ?_;rintro e w1 ⟨rfl,b1⟩;have B1:=yT B b1;clear b1;go_wp2_with fail;go_ret;exact⟨rfl,B1.out⟩
theorem chk3_any{w:World}{lp:Option Addr}{e0:Int}{has:Int→Bool}(h:aE4 w lp e0 has)(a b c n:Int)(ao:Option Addr)(k cap:Nat)(got:Int):
  Calls Tryz.prog 229 #[payV lp a b c n ao k cap got] w (yR w (.bool (!has a || !has b))):=by
 unfold payV;have bw:=(Below.refl w.heap.size w).alloc yL (.cells #[.pointer lp,.int .u8 a,.int .u8 b,.int .u8 c,.int .i64 n,.slice ao k cap,.int .i64 got] 244);have C1:=yH (h.has _ bw a);have C2:=yH (h.has _ bw b);have B:=yH bw;clear bw h;generalize has a=x at *;generalize has b=y at *
 cases x
 ·go_enter Tryz.func229,Tryz.ntmps229;go_wp2_with fail;refine C1.out.mono ?_;rintro e w1 ⟨rfl,rfl⟩;go_wp2_with fail;go_ret;exact⟨rfl,B.out⟩
 go_enter Tryz.func229,Tryz.ntmps229;go_wp2_with fail;refine C1.out.mono ?_;rintro e w1 ⟨rfl,rfl⟩;go_wp2_with fail;refine C2.out.mono ?_;rintro e w1 ⟨rfl,rfl⟩;go_wp2_with fail;go_ret;exact⟨rfl,B.out⟩
theorem chk4_any(w:World)(lp:Option Addr)(a b c n:Int)(ao:Option Addr)(k cap:Nat)(got:Int):
  Calls Tryz.prog 230 #[payV lp a b c n ao k cap got] w (yR w (.bool (decide (got<n)))):=by
 unfold payV;have B:=yH ((Below.refl w.heap.size w).alloc yL (.cells #[.pointer lp,.int .u8 a,.int .u8 b,.int .u8 c,.int .i64 n,.slice ao k cap,.int .i64 got] 244));go_enter Tryz.func230,Tryz.ntmps230;go_wp2_with fail;go_ret;exact⟨rfl,B.out⟩
abbrev aRz:Array Value:=#[.int .i64 2,.func (.func 226) #[] #[],.int .i64 1,.func (.func 227) #[] #[],.int .i64 7,.func (.func 229) #[] #[],.int .i64 11,.func (.func 230) #[] #[]]
theorem checks_any(w:World):Calls Tryz.prog 214 #[] w fun e w'=>e=.returned (.slice (some ⟨w.heap.size,0,none⟩) 4 4)∧Blk w' w.heap.size aRz 282∧Below w.heap.size w w':=by
 have B:=yH ((Below.refl w.heap.size w).alloc yL (.cells aRz 282));have K:=yH (pAA w aRz 282);go_enter Tryz.func214,Tryz.ntmps214;go_wp2_with fail;go_ret;exact⟨rfl,K.out,B.out⟩
def WrongAt(e0:Int)(has:Int→Bool)(a b c n got:Int)(W:World)(i:Value)(wr:World):Prop:=
 ∃j:Int,0≤j∧j≤4∧i=.int .i64 j∧Below W.heap.size W wr∧(1≤j→e0≠2)∧(2≤j→aDg a b c n)∧(3≤j→has a=true∧has b=true)∧(4≤j→¬got<n)
theorem wrong_any{w:World}{lp:Option Addr}{e0:Int}{has:Int→Bool}(h:aE4 w lp e0 has)(a b c n:Int)(ao:Option Addr)(k cap:Nat)(got:Int):
  Calls Tryz.prog 188 #[payV lp a b c n ao k cap got] w (yR w (.int .i64 (aDr e0 has a b c n got))):=by
 have bw:=(Below.refl w.heap.size w).alloc yL (.cells #[.pointer lp,.int .u8 a,.int .u8 b,.int .u8 c,.int .i64 n,.slice ao k cap,.int .i64 got] 244);have H:=yH (h.below bw);have KX:=yH (pAA w #[.pointer lp,.int .u8 a,.int .u8 b,.int .u8 c,.int .i64 n,.slice ao k cap,.int .i64 got] 244);have B:=yH bw;clear bw h;unfold payV;go_enter Tryz.func188,Tryz.ntmps188;go_wp2_with fail;generalize w.alloc (.cells #[.pointer lp,.int .u8 a,.int .u8 b,.int .u8 c,.int .i64 n,.slice ao k cap,.int .i64 got] 244)=W at *;refine(checks_any W).mono ?_;rintro e w1 ⟨rfl,hk,hb⟩;have K1:=yH hk;have B1:=yH hb;have hWs:=hk.lt;have hws:=KX.out.lt;clear hk hb;go_wp2_with fail
 go_loopw [7] (WrongAt e0 has a b c n got w1) (fun i _=>4 - (intOf i).toNat)
 case atStart=>exact⟨0,by omega,by omega,rfl,yZ,by omega,by omega,by omega,by omega⟩
 obtain⟨j,j0,j4,rfl,hB,e1,e2,e3,e4⟩:=hrel;have KC:=K1.out.below hB hWs;have KP:=(KX.out.below B1.out hws).below hB (yM hws B1.out.size);have HH:=yH ((H.out.below B1.out).below hB);have d0:=KP.cell 0;have d1:=KP.cell 1;have d2:=KP.cell 2;have d3:=KP.cell 3;have d4:=KP.cell 4;have d5:=KP.cell 5;have d6:=KP.cell 6;have hlp:=KP.lt;simp at d0 d1 d2 d3 d4 d5 d6;have BJ:=yH hB;have BT:=yH (B.out.trans ((B1.out.trans (hB.mono B1.out.size)).mono B.out.size));have c0:=KC.cell 0;have c1:=KC.cell 1;have c2:=KC.cell 2;have c3:=KC.cell 3;have c4:=KC.cell 4;have c5:=KC.cell 5;have c6:=KC.cell 6;have c7:=KC.cell 7;simp at c0 c1 c2 c3 c4 c5 c6 c7;clear hB KC KP;have hcase:j=0∨j=1∨j=2∨j=3∨j=4:=by omega
 rcases hcase with rfl|rfl|rfl|rfl|rfl
 ·have KT:=yH (pAA wr #[.int .i64 2,.func (.func 226) #[] #[]] 282);have bt:=(Below.refl wr.heap.size wr).alloc yL (.cells #[.int .i64 2,.func (.func 226) #[] #[]] 282);have CC:=yH (chk1_any (HH.out.below bt) a b c n ao k cap got);have BX:=yT BJ bt;have BY:=yT BT bt;clear bt
  by_cases hx:e0=2
  ·have E:Hid (aDr e0 has a b c n got=2):=yH (by
    unfold aDr;rw[if_pos hx])
   rw[show(e0==2)=true by simpa using hx]at CC;clear e1 e2 e3 e4 hx;go_wp2_with fail;refine CC.out.mono ?_;rintro e w2 ⟨rfl,b2⟩;have t0:=(KT.out.below b2 KT.out.lt).cell 0;simp at t0;have BZ:=yT BY b2;clear b2 CC c0 c1 c2 c3 c4 c5 c6 c7 d0 d1 d2 d3 d4 d5 d6;go_wp2_with fail;go_ret;exact⟨by rw[E.out];rfl,BZ.out⟩
  rw[show(e0==2)=false by simpa using hx]at CC;have N:Hid (e0≠2):=yH (by exact hx);clear e1 e2 e3 e4 hx;go_wp2_with fail;refine CC.out.mono ?_;rintro e w2 ⟨rfl,b2⟩;have BZ:=yT BX b2;clear b2 CC c0 c1 c2 c3 c4 c5 c6 c7 d0 d1 d2 d3 d4 d5 d6;go_wp2_with fail;exact⟨⟨1,by omega,by omega,rfl,BZ.out,fun _=>N.out,by omega,by omega,by omega⟩,by decide⟩
 ·have KT:=yH (pAA wr #[.int .i64 1,.func (.func 227) #[] #[]] 282);have bt:=(Below.refl wr.heap.size wr).alloc yL (.cells #[.int .i64 1,.func (.func 227) #[] #[]] 282);have CC:=yH (chk2_any (wr.alloc (.cells #[.int .i64 1,.func (.func 227) #[] #[]] 282)) lp a b c n ao k cap got);have BX:=yT BJ bt;have BY:=yT BT bt;clear bt
  by_cases hx:¬aDg a b c n
  ·have E:Hid (aDr e0 has a b c n got=1):=yH (by
    unfold aDr;rw[if_neg (e1 (by omega)),if_pos hx])
   rw[show(!decide (aDg a b c n))=true by simpa using hx]at CC;clear e1 e2 e3 e4 hx;go_wp2_with fail;refine CC.out.mono ?_;rintro e w2 ⟨rfl,b2⟩;have t0:=(KT.out.below b2 KT.out.lt).cell 0;simp at t0;have BZ:=yT BY b2;clear b2 CC c0 c1 c2 c3 c4 c5 c6 c7 d0 d1 d2 d3 d4 d5 d6;go_wp2_with fail;go_ret;exact⟨by rw[E.out];rfl,BZ.out⟩
  rw[show(!decide (aDg a b c n))=false by simpa using hx]at CC;have N:Hid (aDg a b c n):=yH (by simpa using hx);have E1:=yH e1;clear e1 e2 e3 e4 hx;go_wp2_with fail;refine CC.out.mono ?_;rintro e w2 ⟨rfl,b2⟩;have BZ:=yT BX b2;clear b2 CC c0 c1 c2 c3 c4 c5 c6 c7 d0 d1 d2 d3 d4 d5 d6;go_wp2_with fail;exact⟨⟨2,by omega,by omega,rfl,BZ.out,fun _=>E1.out (by omega),fun _=>N.out,by omega,by omega⟩,by decide⟩
 ·have KT:=yH (pAA wr #[.int .i64 7,.func (.func 229) #[] #[]] 282);have bt:=(Below.refl wr.heap.size wr).alloc yL (.cells #[.int .i64 7,.func (.func 229) #[] #[]] 282);have CC:=yH (chk3_any (HH.out.below bt) a b c n ao k cap got);have BX:=yT BJ bt;have BY:=yT BT bt;clear bt
  by_cases hx:has a=false∨has b=false
  ·have E:Hid (aDr e0 has a b c n got=7):=yH (by
    unfold aDr;rw[if_neg (e1 (by omega)),if_neg (by simpa using e2 (by omega)),if_pos hx])
   rw[show(!has a || !has b)=true by rcases hx with h|h <;> simp[h]]at CC;clear e1 e2 e3 e4 hx;go_wp2_with fail;refine CC.out.mono ?_;rintro e w2 ⟨rfl,b2⟩;have t0:=(KT.out.below b2 KT.out.lt).cell 0;simp at t0;have BZ:=yT BY b2;clear b2 CC c0 c1 c2 c3 c4 c5 c6 c7 d0 d1 d2 d3 d4 d5 d6;go_wp2_with fail;go_ret;exact⟨by rw[E.out];rfl,BZ.out⟩
  rw[show(!has a || !has b)=false by simp at hx;simp[hx]]at CC;have N:Hid (has a=true∧has b=true):=yH (by simpa using hx);have E1:=yH e1;have E2:=yH e2;clear e1 e2 e3 e4 hx;go_wp2_with fail;refine CC.out.mono ?_;rintro e w2 ⟨rfl,b2⟩;have BZ:=yT BX b2;clear b2 CC c0 c1 c2 c3 c4 c5 c6 c7 d0 d1 d2 d3 d4 d5 d6;go_wp2_with fail;exact⟨⟨3,by omega,by omega,rfl,BZ.out,fun _=>E1.out (by omega),fun _=>E2.out (by omega),fun _=>N.out,by omega⟩,by decide⟩
 ·have KT:=yH (pAA wr #[.int .i64 11,.func (.func 230) #[] #[]] 282);have bt:=(Below.refl wr.heap.size wr).alloc yL (.cells #[.int .i64 11,.func (.func 230) #[] #[]] 282);have CC:=yH (chk4_any (wr.alloc (.cells #[.int .i64 11,.func (.func 230) #[] #[]] 282)) lp a b c n ao k cap got);have BX:=yT BJ bt;have BY:=yT BT bt;clear bt
  by_cases hx:got<n
  ·have E:Hid (aDr e0 has a b c n got=11):=yH (by
    unfold aDr;rw[if_neg (e1 (by omega)),if_neg (by simpa using e2 (by omega)),if_neg (by simp[e3 (by omega)]),if_pos hx])
   rw[show decide (got<n)=true by simpa using hx]at CC;clear e1 e2 e3 e4 hx;go_wp2_with fail;refine CC.out.mono ?_;rintro e w2 ⟨rfl,b2⟩;have t0:=(KT.out.below b2 KT.out.lt).cell 0;simp at t0;have BZ:=yT BY b2;clear b2 CC c0 c1 c2 c3 c4 c5 c6 c7 d0 d1 d2 d3 d4 d5 d6;go_wp2_with fail;go_ret;exact⟨by rw[E.out];rfl,BZ.out⟩
  rw[show decide (got<n)=false by simpa using hx]at CC;have N:Hid (¬got<n):=yH (by exact hx);have E1:=yH e1;have E2:=yH e2;have E3:=yH e3;clear e1 e2 e3 e4 hx;go_wp2_with fail;refine CC.out.mono ?_;rintro e w2 ⟨rfl,b2⟩;have BZ:=yT BX b2;clear b2 CC c0 c1 c2 c3 c4 c5 c6 c7 d0 d1 d2 d3 d4 d5 d6;go_wp2_with fail;exact⟨⟨4,by omega,by omega,rfl,BZ.out,fun _=>E1.out (by omega),fun _=>E2.out (by omega),fun _=>E3.out (by omega),fun _=>by have:=N.out;omega⟩,by decide⟩
 have E:Hid (aDr e0 has a b c n got=0):=yH (by
  unfold aDr;rw[if_neg (e1 (by omega)),if_neg (by simpa using e2 (by omega)),if_neg (by simp[e3 (by omega)]),if_neg (e4 (by omega))])
 clear e1 e2 e3 e4 d0 d1 d2 d3 d4 d5 d6 c0 c1 c2 c3 c4 c5 c6 c7;go_wp2_with fail;go_ret;exact⟨by rw[E.out];rfl,BT.out⟩
theorem aMs(HM:aEf){w:World}{G M:Nat}{ps:List Int}{ls:List Ln}{a b c:Int}{μ:RS}(h:LedM w G M ps ls)(hI:LInv ps ls)(ha:In8 a)(hb:In8 b)(hc:In8 c)(hμ:aAk (aB1 ps ls c) 4398046511104 a b aBs μ):
  Calls Tryz.prog 133 #[.pointer (some ⟨G,0,none⟩),.int .u8 a,.int .u8 b,.int .u8 c] w (yR w (.int .i64 (aBs - μ.left))):=by
 have C1:=yH (gof_led h hI hc);have HI:=yH (aAx hI c);have HR:=yH hμ;clear h hI hμ;go_enter Tryz.func133,Tryz.ntmps133;go_wp2_with fail;refine C1.out.mono ?_;rintro e w1 ⟨rfl,hk,hb1⟩;have C2:=yH (HM.at_ (IsM.of hk) HI.out ha hb HR.out);have B1:=yH hb1;obtain⟨m,hm⟩:∃m,aBs - μ.left=m:=⟨_,rfl⟩;rw[hm]at C2;have HE:=yH hm;clear hk hb1 hm;go_wp2_with fail;refine C2.out.mono ?_;rintro e w2 ⟨rfl,hb2⟩;have B2:=yT B1 hb2;clear hb2;go_wp2_with fail;go_ret;exact⟨by rw[HE.out];rfl,B2.out⟩
def PayAt(w:World)(G M:Nat)(ps:List Int)(ls:List Ln)(c:Int)(l:List Fw)(W:World)(i:Value)(wr:World):Prop:=
 ∃k:Nat,k≤l.length∧i=.int .i64 k∧LedM wr G M ps (aCf ps c ls (l.take k))∧Keep (·=M) W wr
theorem aN0(HR:aGd){w:World}{G M:Nat}{ps:List Int}{ls:List Ln}{a b c n:Int}{σ:RS}(h:LedM w G M ps ls)(hI:LInv ps ls)(ha:In8 a)(hb:In8 b)(hc:In8 c)(hn:In64 n)(hσ:aAk (aB1 ps ls c) 4398046511104 a b n σ):
  Calls Tryz.prog 140 #[.pointer (some ⟨G,0,none⟩),.int .u8 a,.int .u8 b,.int .u8 c,.int .i64 n] w fun e w'=>e=.returned (.tuple #[.int .i64 (payN ps a b c n σ),.int .i64 (payE ps a b c n σ)])∧LedM w' G M ps (payL ps ls a b c n σ)∧Keep (·=M) w w':=by
 have bw:=(Below.refl w.heap.size w).alloc yL (.cells #[.pointer (some ⟨G,0,none⟩),.int .u8 a,.int .u8 b,.int .u8 c,.int .i64 n,.slice none 0 0,.int .i64 0] 244);have L1:=yH (h.below bw);have KX:=yH (pAA w #[.pointer (some ⟨G,0,none⟩),.int .u8 a,.int .u8 b,.int .u8 c,.int .i64 n,.slice none 0 0,.int .i64 0] 244);have B0:=yH bw;have hGl:=h.blk.lt;have hMl:=h.map.lt;have II:=yH hI;have HA:=yH ha;have HB:=yH hb;have HC:=yH hc;have HN:=yH hn;have HS:=yH hσ;have hsl:=hσ.len;clear bw h hI ha hb hc hn hσ;go_enter Tryz.func140,Tryz.ntmps140;go_wp2_with fail;generalize w.alloc (.cells #[.pointer (some ⟨G,0,none⟩),.int .u8 a,.int .u8 b,.int .u8 c,.int .i64 n,.slice none 0 0,.int .i64 0] 244)=W at *;have hwW:=B0.out.size;have hXl:=KX.out.lt;refine(gof_led L1.out II.out HC.out).mono ?_;rintro e w1 ⟨rfl,hk,hb1⟩;have CR:=yH (HR.at_ (IsM.of hk) (aAx II.out c) HA.out HB.out HN.out HS.out);have L2:=yH (L1.out.below hb1);have K2:=yB KX hb1;have B2:=yH (B0.out.trans (hb1.mono hwW));have hWw1:=hb1.size;obtain⟨got,hgot⟩:∃got,n - σ.left=got:=⟨_,rfl⟩;rw[hgot]at CR;have HG:=yH hgot;clear hk hb1 L1 KX B0 hgot;go_wp2_with fail;refine CR.out.mono ?_;rintro e w3 ⟨v',rfl,hr,hb3⟩;obtain⟨ao,cap,rfl,hcap,hmx,_,hrow⟩:=hr.look (by decide);have L3:=yH (L2.out.below hb3);have K3:=yB K2 hb3;have B3:=yT B2 hb3;have R3:=yH hr;have d5:=K3.out.cell 5;have d6:=K3.out.cell 6;have f5:=K3.out.frozen 5;have f6:=K3.out.frozen 6;have b2s:=B2.out.size;simp at d5 d6;clear hb3 hr L2 K2 B2 CR hrow
 go_upto_region 3 with fail
 have K4:=(K3.out.set 5 (.slice ao σ.out.length cap)).set 6 (.int .i64 got);have E4:=yH ((Keep.refl (·=w.heap.size) w3).setCell (p:=⟨w.heap.size,5,none⟩) (.inl rfl) (.slice ao σ.out.length cap) |>.setCell (p:=⟨w.heap.size,6,none⟩) (.inl rfl) (.int .i64 got));have B4:=yH ((B3.out.setCell (p:=⟨w.heap.size,5,none⟩) yL (.slice ao σ.out.length cap)).setCell (p:=⟨w.heap.size,6,none⟩) yL (.int .i64 got));have L4:=yH (L3.out.keep E4.out (by show ¬G=w.heap.size;omega) (by show ¬M=w.heap.size;omega));have R4:=yH (R3.out.keep E4.out (fun bb hbb=>by have:=(R3.out.type hbb).1;show ¬bb=w.heap.size;omega));have KX4:=yH (show Blk _ w.heap.size #[.pointer (some ⟨G,0,none⟩),.int .u8 a,.int .u8 b,.int .u8 c,.int .i64 n,.slice ao σ.out.length cap,.int .i64 got] 244 from by simpa using K4);clear K3 B3 L3 R3 E4 d5 d6 f5 f6 K4;generalize (w3.setCell ⟨w.heap.size,5,none⟩ (.slice ao σ.out.length cap)).setCell ⟨w.heap.size,6,none⟩ (.int .i64 got)=W4 at *;have d0:=KX4.out.cell 0;have d1:=KX4.out.cell 1;have d2:=KX4.out.cell 2;have d3:=KX4.out.cell 3;have d4:=KX4.out.cell 4;have d5:=KX4.out.cell 5;have d6:=KX4.out.cell 6;have hl4:=KX4.out.lt;simp at d0 d1 d2 d3 d4 d5 d6;have CW:=yH (wrong_any (aHq L4.out II.out) a b c n ao σ.out.length cap got);obtain⟨er,her⟩:∃er,aDr 1 (fun p=>decide (p∈ps)) a b c n got=er:=⟨_,rfl⟩;rw[her]at CW;have EE:Hid (payE ps a b c n σ=er):=yH (by unfold payE;rw[HG.out];exact her);clear her
 by_cases h0:er=0
 ·subst h0;have PN:Hid (payN ps a b c n σ=(σ.out.length:Int)∧payL ps ls a b c n σ=aCf ps c ls σ.out):=yH (by unfold payN payL;rw[if_pos EE.out,if_pos EE.out];exact⟨rfl,rfl⟩);go_wp2_with fail;refine CW.out.mono ?_;rintro e w5 ⟨rfl,hb5⟩;have L5:=yH (L4.out.below hb5);have B5:=yT B4 hb5;have R5:=yH (R4.out.below hb5);have KX5:=yH (KX4.out.below hb5 hl4);clear hb5 L4 B4 R4 CW d0 d1 d2 d3 d4 d5 d6 KX4 hl4;have d5:=KX5.out.cell 5;simp at d5;obtain⟨L,hL⟩:∃L,σ.out=L:=⟨_,rfl⟩;have EL:=yH (HS.out.els);rw[hL]at R5 PN EL hsl hcap d5 KX5 ⊢;have hb1w:w.heap.size<w1.heap.size:=by omega
  go_wp2_with fail
  go_loopw [42] (PayAt w G M ps ls c L w5) (fun i _=>L.length - (intOf i).toNat)
  case atStart=>exact⟨0,by omega,rfl,L5.out,Keep.refl _ _⟩
  obtain⟨k,hk,rfl,hLL,hKK⟩:=hrel;have LL:=yH hLL;have KK:=yH hKK;have RR:=yH (R5.out.keep hKK (fun bb hbb=>by have:=(R5.out.type hbb).1;show ¬bb=M;omega));have KZ:=yH (KX5.out.keep hKK (by show ¬w.heap.size=M;omega));clear hLL hKK
  by_cases hkl:k<L.length
  ·have hki:(k:Int)<(L.length:Int):=by omega
   have hk0:(0:Int)≤(k:Int):=by omega
   obtain⟨ao1,ca1,hv,_,_,_,hlk⟩:=RR.out.look (by decide);simp only[Value.slice.injEq]at hv;obtain⟨h1,_,h2⟩:=hv;subst h1;subst h2;obtain⟨bl,rfl,hblb,hbl,hc,_⟩:=hlk (by omega);clear hlk;have e0:=(hc (k*3+0) (by omega)).trans (aB6 L k 0 (by omega) hkl);have e1:=(hc (k*3+1) (by omega)).trans (aB6 L k 1 (by omega) hkl);have e2:=(hc (k*3+2) (by omega)).trans (aB6 L k 2 (by omega) hkl);rw[Nat.add_zero]at e0;clear hc;have NX:=yH (aJm (ps:=ps) (c:=c) (ls:=ls) hkl);have el:=EL.out L[k] (List.getElem_mem _);have IK:=yH (aEq (ps:=ps) (c:=c) (L.take k) II.out);generalize aCf ps c ls (L.take k)=lk at *;obtain⟨x,hx⟩:∃x,L[k]=x:=⟨_,rfl⟩;rw[hx]at NX el e0 e1 e2;clear hx;obtain⟨fr,tt,am⟩:=x;obtain⟨⟨a1,a2⟩,⟨b1,b2⟩,_,n1,n2⟩:=el;dsimp only at a1 a2 b1 b2 n1 n2 NX;simp[Fw.vals]at e0 e1 e2;have bt:=(Below.refl wr.heap.size wr).alloc yL (.cells #[.int .u8 fr,.int .u8 tt,.int .i64 am] 220);have CP:=yH (aIg (LL.out.below bt) IK.out (a:=fr) (b:=tt) (c:=c) (n:=am) ⟨by omega,by omega⟩ ⟨by omega,by omega⟩ HC.out ⟨by omega,by omega⟩);have KT:=yH (KK.out.trans (pAE (S:=(·=M)) bt));have HK:=yH hkl;clear bt a1 a2 b1 b2 n1 n2;go_wp2_with fail;refine CP.out.mono ?_;rintro e w6 ⟨rfl,hL6,k6⟩;have L6:=yH hL6;have K6:=yH (KT.out.trans k6);clear hL6 k6 CP e0 e1 e2;go_wp2_with fail;exact⟨⟨k+1,by have:=HK.out;omega,by go_num,by rw[NX.out];exact L6.out,K6.out⟩,by simp[intOf];have:=HK.out;omega⟩
  have hkn:k=L.length:=by omega
  subst hkn;rw[List.take_length]at LL;have d5:=KZ.out.cell 5;simp at d5;have BE:=yH ((pAE (S:=(·=M)) B5.out).trans KK.out);go_wp2_with fail;refine bodyPost_ret (v:=.tuple #[.int .i64 (L.length:Nat),.int .i64 0]) (by simp[results,Tryz.results140,go_sem]) rfl ?_;rw[PN.out.1,PN.out.2,EE.out];exact⟨rfl,LL.out,BE.out⟩
 have q0:(er==0)=false:=by simpa using h0
 have PN:Hid (payN ps a b c n σ=0∧payL ps ls a b c n σ=ls):=yH (by unfold payN payL;rw[if_neg (by rw[EE.out];exact h0),if_neg (by rw[EE.out];exact h0)];exact⟨rfl,rfl⟩);clear h0;go_wp2_with fail;refine CW.out.mono ?_;rintro e w5 ⟨rfl,hb5⟩;have L5:=yH (L4.out.below hb5);have B5:=yT B4 hb5;clear hb5 L4 B4 R4 CW d0 d1 d2 d3 d4 d5 d6 KX4;go_wp2_with fail;refine bodyPost_ret (v:=.tuple #[.int .i64 0,.int .i64 er]) (by simp[results,Tryz.results140,go_sem]) rfl ?_;rw[PN.out.1,PN.out.2,EE.out];exact⟨rfl,L5.out,pAE B5.out⟩
theorem aG3(w:World):(zeroValue 207).run Tryz.prog w=.ok (.agg (arr fun _=>false)) w:=by
 have h:(zeroValue 207).run Tryz.prog=fun w=>.ok (.agg (arr fun _=>false)) w:=by kernel_rfl
 rw[h]
theorem aAo(f:Nat→Bool):(Tryz.prog.info? 207).map (·.size)=some (arr f).size:=by rw[aA6];kernel_rfl
def PlusAt(x y:Nat)(w:World)(c i:Value)(wr:World):Prop:=
 ∃k:Nat,k≤192∧i=.int .i64 k∧c=.int .i64 (aFa x y k)∧Blk wr w.heap.size (arr x.testBit) 207∧Blk wr (w.heap.size+1) (arr y.testBit) 207∧
  Blk wr (w.heap.size+1+1) (arr fun _=>false) 207∧Blk wr (w.heap.size+1+1+1) (arr fun j=>decide (j<k) && (x+y).testBit j) 207∧Below w.heap.size w wr
theorem plus_store(x y k:Nat):(arr fun j=>decide (j<k) && (x+y).testBit j).setIfInBounds k (.bool ((x+y).testBit k))=arr fun j=>decide (j<k+1) && (x+y).testBit j:=by
 rw[aK1];refine aCa fun j hj=>?_
 by_cases h:j=k
 ·subst h;simp
 have:(j<k+1)=(j<k):=by simp;omega
 simp[h,this]
theorem aPo(x y:Nat)(w:World):
  Calls Tryz.prog 191 #[aE3 x,aE3 y] w (yR w (aE3 (x+y))):=by
 have hz:=aG3;rw[aBv,aBv];go_enter Tryz.func191,Tryz.ntmps191;go_wp2
 go_loopw [6,7] (PlusAt x y w) (fun _ i _=>192 - (intOf i).toNat)
 case atStart=>
  have c0:aFa x y 0=0:=by simp[aFa,Nat.mod_one]
  refine⟨0,by omega,rfl,by rw[c0];rfl,?_,?_,?_,?_,((((yZ.alloc yL _).alloc (by simp) _).alloc (by simp;omega) _).alloc (by simp;omega) _)⟩
  ·exact(((pAA _ _ _).alloc _).alloc _).alloc _
  ·exact((pAC _ _ _ (by simp)).alloc _).alloc _
  ·exact(pAC _ _ _ (by simp)).alloc _
  have e:(arr fun j=>decide (j<0) && (x+y).testBit j)=arr fun _=>false:=aCa fun i _=>by simp
  rw[e];exact pAC _ _ _ (by simp)
 obtain⟨k,hk,rfl,rfl,k1,k2,k3,k4,hb⟩:=hrel
 by_cases hkl:k<192
 ·obtain⟨c,hc,hcc,hbit,hcs⟩:=add_step x y k;have hcell1:wr.cell? ⟨w.heap.size,k,none⟩=some (.bool (x.testBit k)):=by rw[k1.cell k];exact aB7 _ k hkl
  have hcell2:wr.cell? ⟨w.heap.size+1,k,none⟩=some (.bool (y.testBit k)):=by rw[k2.cell k];exact aB7 _ k hkl
  have hcell4:wr.cell? ⟨w.heap.size+1+1+1,k,none⟩=some (.bool false):=by rw[k4.cell k,aB7 _ k hkl];simp
  have hf4:=k4.frozen k;have HB:=yH hbit;have HC:=yH hcs;rw[hcc];clear hbit hcs hcc;have hs4:=yH (k4.set k (.bool ((x+y).testBit k)));rw[plus_store]at hs4;have h01:c=0∨c=1:=by omega
  cases hx:x.testBit k <;> cases hy:y.testBit k
  all_goals
   rw[hx]at hcell1 HB HC;rw[hy]at hcell2 HB HC;clear hx hy;rcases h01 with rfl|rfl
  all_goals
   go_wp2;go_roundw
   case rel=>
    have e:=HB.out;have e2:=HC.out;simp at e e2;rw[e]at hs4;exact⟨k+1,by omega,by go_num,by rw[e2];rfl,k1.setOther (by simp;omega) _,k2.setOther (by simp) _,k3.setOther (by simp) _,hs4.out,hb.setCell (by simp;omega) _⟩
   case measure=>simp[intOf];omega
 have e:(arr fun j=>decide (j<k) && (x+y).testBit j)=arr (x+y).testBit:=aCa fun j hj=>by
  have:j<k:=by omega
  simp[this]
 rw[e]at k4;clear e
 go_wp2_with (first
  | (refine wpList_load_row rfl 207 (.tmp 5) rfl (w.heap.size+1+1+1) rfl 207 (arr (x+y).testBit) (0,0) _ k4 Tryz.underlying207 rfl (aAo _) ?_)
  | (refine wpList_store_row rfl 207 (.tmp 4) (.tmp 31) rfl (w.heap.size+1+1) (arr (x+y).testBit) rfl rfl 207 _ k3 (aAo _) (by simp only[aA6]) (aDo _) ?_))
 refine bodyPost_ret (v:=aE3 (x+y)) (results_cell_row rfl _ _ (w.heap.size+1+1) 207 (arr (x+y).testBit) (0,0) _ rfl k3.row Tryz.underlying207 rfl (aAo _)) rfl ⟨rfl,?_⟩;exact below_setRow hb (by omega) _
def aPp(x y:Nat)(i:Value):Prop:=(∃k:Nat,k<192∧i=.int .i64 k∧x/2 ^ (k+1)=y/2 ^ (k+1))∨(i=.int .i64 (-1)∧x=y)
theorem aJo{x y:Nat}(k:Nat)(hk:k<192)(h:x/2 ^ k=y/2 ^ k):aPp x y (.int .i64 ((k:Int) - 1)):=by
 rcases Nat.eq_zero_or_pos k with rfl|hp
 ·right;simp at h;exact⟨rfl,h⟩
 left;refine⟨k - 1,by omega,by congr 1;omega,?_⟩
 rw[show k - 1+1=k by omega];exact h
theorem aGj(x y:Nat)(w:World)(hx:x<2 ^ 192)(hy:y<2 ^ 192):
  Calls Tryz.prog 153 #[aE3 x,aE3 y] w (yR w (.bool (decide (y<x)))):=by
 have hx0:x/2 ^ (191+1)=y/2 ^ (191+1):=by rw[Nat.div_eq_of_lt hx,Nat.div_eq_of_lt hy]
 clear hx hy;have H0:=yH hx0;clear hx0;rw[aBv,aBv];go_enter Tryz.func153,Tryz.ntmps153;go_wp2;have k1:Blk ((w.alloc (.cells (arr x.testBit) 207)).alloc (.cells (arr y.testBit) 207)) w.heap.size (arr x.testBit) 207:=(pAA _ _ _).alloc _;have k2:Blk ((w.alloc (.cells (arr x.testBit) 207)).alloc (.cells (arr y.testBit) 207)) (w.heap.size+1) (arr y.testBit) 207:=pAC _ _ _ (by simp);have hb:Below w.heap.size w ((w.alloc (.cells (arr x.testBit) 207)).alloc (.cells (arr y.testBit) 207)):=(yZ.alloc yL _).alloc (by simp) _;generalize (w.alloc (.cells (arr x.testBit) 207)).alloc (.cells (arr y.testBit) 207)=W at *
 go_loopw [5] (fun i wr=>aPp x y i∧∃n,wr=W.drewN n) (fun i _=>(intOf i+1).toNat)
 case atStart=>exact⟨.inl ⟨191,by omega,rfl,H0.out⟩,0,rfl⟩
 obtain⟨hat,n,rfl⟩:=hrel;rcases hat with⟨k,hk,rfl,heq⟩|⟨rfl,rfl⟩
 ·have hst:=aO9 x y k heq;have h1:=yH hst.1;have h2:=yH hst.2;clear hst heq;have hcell1:W.cell? ⟨w.heap.size,k,none⟩=some (.bool (x.testBit k)):=by rw[k1.cell k];exact aB7 _ k hk
  have hcell2:W.cell? ⟨w.heap.size+1,k,none⟩=some (.bool (y.testBit k)):=by rw[k2.cell k];exact aB7 _ k hk
  have hki:(k:Int)<192:=by omega
  generalize hu:x.testBit k=u at hcell1;generalize hv:y.testBit k=v at hcell2;have HU:=yH hu;have HV:=yH hv;clear hu hv
  cases u <;> cases v
  all_goals
   go_wp2
   go_quiet (fail)
   go_wp2
  ·go_roundw
   case rel=>exact⟨aJo k hk (h1.out (by rw[HU.out,HV.out])),_,rfl⟩
   case measure=>simp[intOf] <;> omega
  ·go_ret;exact⟨by rw[h2.out (by rw[HU.out,HV.out];simp),HU.out];rfl,below_drewN hb _⟩
  ·go_ret;exact⟨by rw[h2.out (by rw[HU.out,HV.out];simp),HU.out];rfl,below_drewN hb _⟩
  go_roundw
  case rel=>exact⟨aJo k hk (h1.out (by rw[HU.out,HV.out])),_,rfl⟩
  case measure=>simp[intOf] <;> omega
 go_wp2;go_ret;exact⟨by simp,below_drewN hb _⟩
theorem aMt(z k:Nat):(arr fun j=>decide (j<k) && z.testBit j).setIfInBounds k (.bool (z.testBit k))=arr fun j=>decide (j<k+1) && z.testBit j:=by
 rw[aK1];refine aCa fun j hj=>?_
 by_cases h:j=k
 ·subst h;simp
 have:(j<k+1)=(j<k):=by simp;omega
 simp[h,this]
theorem upto_all(z k:Nat)(h:192≤k):(arr fun j=>decide (j<k) && z.testBit j)=arr z.testBit:=aCa fun j hj=>by
 have:j<k:=by omega
 simp[this]
def LessAt(x y:Nat)(w:World)(c i:Value)(wr:World):Prop:=
 ∃k:Nat,k≤192∧i=.int .i64 k∧c=.int .i64 (aDc x y k)∧Blk wr w.heap.size (arr x.testBit) 207∧Blk wr (w.heap.size+1) (arr y.testBit) 207∧
  Blk wr (w.heap.size+1+1) (arr fun _=>false) 207∧Blk wr (w.heap.size+1+1+1) (arr fun j=>decide (j<k) && (x - y).testBit j) 207∧Below w.heap.size w wr
theorem rless_any(x y:Nat)(w:World)(hle:y≤x):
  Calls Tryz.prog 231 #[aE3 x,aE3 y] w (yR w (aE3 (x - y))):=by
 have hz:=aG3;rw[aBv,aBv];go_enter Tryz.func231,Tryz.ntmps231;go_wp2
 go_loopw [6,7] (LessAt x y w) (fun _ i _=>192 - (intOf i).toNat)
 case atStart=>
  have c0:aDc x y 0=0:=by simp[aDc,Nat.mod_one]
  refine⟨0,by omega,rfl,by rw[c0];rfl,?_,?_,?_,?_,((((yZ.alloc yL _).alloc (by simp) _).alloc (by simp;omega) _).alloc (by simp;omega) _)⟩
  ·exact(((pAA _ _ _).alloc _).alloc _).alloc _
  ·exact((pAC _ _ _ (by simp)).alloc _).alloc _
  ·exact(pAC _ _ _ (by simp)).alloc _
  have e:(arr fun j=>decide (j<0) && (x - y).testBit j)=arr fun _=>false:=aCa fun i _=>by simp
  rw[e];exact pAC _ _ _ (by simp)
 obtain⟨k,hk,rfl,rfl,k1,k2,k3,k4,hb⟩:=hrel
 by_cases hkl:k<192
 ·have hst:=sub_step x y k hle;have hcell1:wr.cell? ⟨w.heap.size,k,none⟩=some (.bool (x.testBit k)):=by rw[k1.cell k];exact aB7 _ k hkl
  have hcell2:wr.cell? ⟨w.heap.size+1,k,none⟩=some (.bool (y.testBit k)):=by rw[k2.cell k];exact aB7 _ k hkl
  have hcell4:wr.cell? ⟨w.heap.size+1+1+1,k,none⟩=some (.bool false):=by rw[k4.cell k,aB7 _ k hkl];simp
  have hf4:=k4.frozen k;have HB:=yH hst.1;have HC:=yH hst.2;have h01:aDc x y k=0∨aDc x y k=1:=by have:=borrowN_le x y k;omega
  clear hst;generalize aDc x y k=c at HB HC h01 ⊢;have hs4:=yH (k4.set k (.bool ((x - y).testBit k)));rw[aMt]at hs4
  cases hx:x.testBit k <;> cases hy:y.testBit k
  all_goals
   rw[hx]at hcell1 HB HC;rw[hy]at hcell2 HB HC;clear hx hy;rcases h01 with rfl|rfl
  all_goals
   go_wp2;go_roundw
   case rel=>
    have e:=HB.out;have e2:=HC.out;simp at e e2;rw[e]at hs4;exact⟨k+1,by omega,by go_num,by first|(rw[e2];done)|(rw[e2];rfl),k1.setOther (by simp;omega) _,k2.setOther (by simp) _,k3.setOther (by simp) _,hs4.out,hb.setCell (by simp;omega) _⟩
   case measure=>simp[intOf] <;> omega
 rw[upto_all (x - y) k (by omega)]at k4
 go_wp2_with (first
  | (refine wpList_load_row rfl 207 (.tmp 5) rfl (w.heap.size+1+1+1) rfl 207 (arr (x - y).testBit) (0,0) _ k4 Tryz.underlying207 rfl (aAo _) ?_)
  | (refine wpList_store_row rfl 207 (.tmp 4) (.tmp 33) rfl (w.heap.size+1+1) (arr (x - y).testBit) rfl rfl 207 _ k3 (aAo _) (by simp only[aA6]) (aDo _) ?_))
 refine bodyPost_ret (v:=aE3 (x - y)) (results_cell_row rfl _ _ (w.heap.size+1+1) 207 (arr (x - y).testBit) (0,0) _ rfl k3.row Tryz.underlying207 rfl (aAo _)) rfl ⟨rfl,?_⟩;exact below_setRow hb (by omega) _
def ShiftAt(x by':Nat)(w:World)(i:Value)(wr:World):Prop:=
 ∃k:Nat,by'≤k∧k≤192∧i=.int .i64 k∧Blk wr w.heap.size (arr x.testBit) 207∧
  Blk wr (w.heap.size+1) (arr fun _=>false) 207∧Blk wr (w.heap.size+1+1) (arr fun j=>decide (j<k) && (x*2 ^ by').testBit j) 207∧Below w.heap.size w wr
theorem shift_bit(x n k:Nat)(h:n≤k):(x*2 ^ n).testBit k=x.testBit (k - n):=by
 rw[Nat.mul_comm,Nat.testBit_two_pow_mul];simp[h]
theorem aMu(x n:Nat)(w:World)(hn:n<192):
  Calls Tryz.prog 192 #[aE3 x,.int .i64 n] w (yR w (aE3 (x*2 ^ n))):=by
 have hz:=aG3;rw[aBv,aBv];go_enter Tryz.func192,Tryz.ntmps192;go_wp2
 go_loopw [6] (ShiftAt x n w) (fun i _=>192 - (intOf i).toNat)
 case atStart=>
  refine⟨n,Nat.le_refl _,by omega,rfl,?_,?_,?_,(((yZ.alloc yL _).alloc (by simp) _).alloc (by simp;omega) _)⟩
  ·exact((pAA _ _ _).alloc _).alloc _
  ·exact(pAC _ _ _ (by simp)).alloc _
  have e:(arr fun j=>decide (j<n) && (x*2 ^ n).testBit j)=arr fun _=>false:=aCa fun i _=>by
   rw[Nat.mul_comm,Nat.testBit_two_pow_mul]
   by_cases h:i<n
   ·simp[h];omega
   simp[h]
  rw[e];exact pAC _ _ _ (by simp)
 obtain⟨k,hnk,hk,rfl,k1,k2,k3,hb⟩:=hrel
 by_cases hkl:k<192
 ·have hcell1:wr.cell? ⟨w.heap.size,k - n,none⟩=some (.bool (x.testBit (k - n))):=by rw[k1.cell (k - n)];exact aB7 _ (k - n) (by omega)
  have hidx:((k:Int) - (n:Int)).toNat=k - n:=by omega
  have hcell1':wr.cell? ⟨w.heap.size,((k:Int) - (n:Int)).toNat,none⟩=some (.bool (x.testBit (k - n))):=by rw[hidx];exact hcell1
  have hcell4:wr.cell? ⟨w.heap.size+1+1,k,none⟩=some (.bool false):=by rw[k3.cell k,aB7 _ k hkl];simp
  have hf4:=k3.frozen k;have hs4:=yH (k3.set k (.bool ((x*2 ^ n).testBit k)));rw[aMt,shift_bit x n k hnk]at hs4;clear hidx;generalize x.testBit (k - n)=b at hcell1 hcell1' hs4;go_wp2;go_roundw
  case rel=>
   exact⟨k+1,by omega,by omega,by go_num,k1.setOther (by simp;omega) _,k2.setOther (by simp) _,hs4.out,hb.setCell (by simp;omega) _⟩
  case measure=>simp[intOf] <;> omega
 rw[upto_all (x*2 ^ n) k (by omega)]at k3
 go_wp2_with (first
  | (refine wpList_load_row rfl 207 (.tmp 5) rfl (w.heap.size+1+1) rfl 207 (arr (x*2 ^ n).testBit) (0,0) _ k3 Tryz.underlying207 rfl (aAo _) ?_)
  | (refine wpList_store_row rfl 207 (.tmp 4) (.tmp 19) rfl (w.heap.size+1) (arr (x*2 ^ n).testBit) rfl rfl 207 _ k2 (aAo _) (by simp only[aA6]) (aDo _) ?_))
 refine bodyPost_ret (v:=aE3 (x*2 ^ n)) (results_cell_row rfl _ _ (w.heap.size+1) 207 (arr (x*2 ^ n).testBit) (0,0) _ rfl k2.row Tryz.underlying207 rfl (aAo _)) rfl ⟨rfl,?_⟩;exact below_setRow hb (by omega) _
end Go.Proofs.YtaeocliklpcgmaaGreat
