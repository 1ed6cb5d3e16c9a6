/- Pieces of one proof. -/
import Derived.Test.YtngnfdnfpiiclaaGreatB15
set_option linter.all false
set_option maxHeartbeats 64000000
set_option maxRecDepth 100000
namespace Go.Proofs.YtngnfdnfpiiclaaGreat
open Go.RowKit
def dbOf(c:Int)(x:Ln):List Fw:=if x.cu=c∧0<x.db then [⟨x.de,x.cr,x.db⟩]else []
def dbL(c:Int)(ls:List Ln):List Fw:=ls.flatMap (dbOf c)
theorem dbL_next{c:Int}{ls:List Ln}{k:Nat}(h:k<ls.length):dbL c (ls.take (k+1))=dbL c (ls.take k)++dbOf c ls[k]:=by
 unfold dbL;rw[List.take_succ_eq_append_getElem h,List.flatMap_append];simp
theorem aPu(c:Int):∀ls:List Ln,(dbL c ls).length≤ls.length
 | []=>Nat.le_refl _
 | x::ls=>by
  have ih:=aPu c ls;show(dbOf c x++dbL c ls).length≤_;rw[List.length_append];unfold dbOf;split <;> simp <;> omega
theorem dbL_mem{c:Int}{ls:List Ln}{x:Fw}:x∈dbL c ls↔∃y∈ls,y.cu=c∧0<y.db∧x=⟨y.de,y.cr,y.db⟩:=by
 unfold dbL;rw[List.mem_flatMap]
 constructor
 ·rintro⟨y,hy,hx⟩;unfold dbOf at hx;split at hx
  ·rename_i hc;rw[List.mem_singleton]at hx;exact⟨y,hy,hc.1,hc.2,hx⟩
  cases hx
 rintro⟨y,hy,h1,h2,rfl⟩;refine⟨y,hy,?_⟩;unfold dbOf;rw[if_pos ⟨h1,h2⟩];exact List.mem_singleton.2 rfl
theorem aRw{c:Int}:∀{ls:List Ln},(∀x∈ls,x.Good)→ls.Pairwise (fun x y=>x.rank<y.rank)→(dbL c ls).Nodup
 | [],_,_=>List.Pairwise.nil
 | x::ls,hg,hp=>by
  obtain⟨p1,p2⟩:=List.pairwise_cons.1 hp;have ih:=aRw (c:=c) (fun y hy=>hg y (List.mem_cons_of_mem _ hy)) p2;show(dbOf c x++dbL c ls).Pairwise _;rw[List.pairwise_append];refine⟨by unfold dbOf;split <;> simp,ih,fun a ha b hb=>?_⟩;obtain⟨y,hy,h1,h2,rfl⟩:=dbL_mem.1 hb;unfold dbOf at ha;split at ha
  ·rename_i hc;rw[List.mem_singleton]at ha;subst ha;intro e;simp only[Fw.mk.injEq]at e;have hr:=p1 y hy;have:x.rank=y.rank:=aId e.2.1 e.1 (hc.1.trans h1.symm);omega
  cases ha
theorem dbL_perm{ps:List Int}{ls:List Ln}(h:LInv ps ls)(c:Int):(dbL c ls).Perm (aA4 ls c):=by
 refine(List.perm_ext_iff_of_nodup (aRw h.inv.good h.inv.sorted) ((aGg ls c).imp (fun{a b} hab e=>by subst e;omega))).2 fun x=>?_
 rw[dbL_mem,aHu]
 constructor
 ·rintro⟨y,hy,rfl,h2,rfl⟩;have hg:=h.inv.good y hy;have hl:=(aBx h.inv y.cr y.de y.cu y).2 ⟨hy,rfl,rfl,rfl⟩;refine⟨hg.de,hg.cr,h2,?_⟩;unfold aMz;rw[aAj hl]
 rintro⟨_,_,h3,h4⟩;obtain⟨y,hl,hy,_,k1,k2,k3⟩:=aM2 h (c:=c) (a:=x.fr) (b:=x.tt) (by rw[←h4];exact h3);obtain⟨hm,_⟩:=(aBx h.inv _ _ _ y).1 hl;have e:x.am=y.db:=by rw[h4];unfold aMz;rw[hy]
 refine⟨y,hm,k3,by omega,?_⟩
 cases x
 simp_all
theorem debts_fit8(ls:List Ln)(c:Int):∀x∈aA4 ls c,0≤x.tt∧x.tt≤255:=fun x hx=>by
 obtain⟨_,h,_⟩:=aHu.1 hx;omega
theorem aTz{ps:List Int}{ls:List Ln}(h:LInv ps ls)(c:Int):(aA4 ls c).length≤64:=by
 rw[← (dbL_perm h c).length_eq];exact Nat.le_trans (aPu c ls) h.len
def DbsAt(W:World)(c:Int)(ls:List Ln)(v i:Value)(wr:World):Prop:=
 ∃k:Nat,k≤ls.length∧i=.int .i64 k∧wr.ownsRow W.heap.size 209 3 v (dbL c (ls.take k)).length (aAn (dbL c (ls.take k)))∧Below W.heap.size W wr
theorem pdebts_at{w:World}{G M:Nat}{ps:List Int}{ls:List Ln}(hL:LedM w G M ps ls)(hI:LInv ps ls)(c:Int)(hc:In8 c):
  Calls Tryz.prog 206 #[.pointer (some ⟨G,0,none⟩),.int .u8 c] w (aE9 w 209 3 (aA4 ls c).length (aAn (aA4 ls c))):=by
 have C1:=yH (aOi hL hI);have HP:=yH (dbL_perm hI c);have hl64:=hI.len;clear hL hI;go_enter Tryz.func206,Tryz.ntmps206;go_wp2_with fail;refine C1.out.mono ?_;rintro e w1 ⟨lv,rfl,hr,hb⟩;obtain⟨ao,rfl,hsh⟩:=aFz hr
 have HS:Hid (0<ls.length→∃g,ao=some ⟨g,0,none⟩∧g<w1.heap.size∧∀j,j<ls.length*5→w1.cell? ⟨g,j,none⟩=(aBd ls)[j]?):=yH (fun h0=>by
  obtain⟨g,h1,_,h2,h3⟩:=hsh h0;exact⟨g,h1,h2,h3⟩)
 have B1:=yH hb;clear hr hb hsh C1;go_wp2_with fail
 go_loopw [5,11] (fun v i wr=>DbsAt w1 c ls v i wr) (fun _ i _=>ls.length - (intOf i).toNat)
 case atStart=>exact⟨0,by omega,rfl,World.ownsRow_nil _ _ _ _,yZ⟩
 obtain⟨k,hk,rfl,hO,hB⟩:=hrel;have OO:=yH hO;have BB:=yH hB;clear hO hB
 by_cases hkl:k<ls.length
 ·have hki:(k:Int)<(ls.length:Int):=by omega
  have hk0:(0:Int)≤(k:Int):=by omega
  obtain⟨g,rfl,hg,hcell⟩:=HS.out (by omega);have NX:=yH (dbL_next (c:=c) hkl);have HLEN:=yH (show(dbL c (ls.take k)).length≤100000 by have:=aPu c (ls.take k);rw[List.length_take]at this;omega);generalize dbL c (ls.take k)=out at *;obtain⟨x,hx⟩:∃x,ls[k]=x:=⟨_,rfl⟩
  have hv:∀j,j<5→wr.cell? ⟨g,k*5+j,none⟩=x.vals[j]? := fun j hj=>by
   rw[BB.out.cell (p:=⟨g,k*5+j,none⟩) hg,hcell _ (by omega),aBk ls k j hj hkl,hx]
  rw[hx]at NX;obtain⟨cr,de,cu,li,db⟩:=x;have d0:wr.cell? ⟨g,k*5,none⟩=some (.int .u8 cr):=hv 0 (by decide);have d1:wr.cell? ⟨g,k*5+1,none⟩=some (.int .u8 de):=hv 1 (by decide);have d2:wr.cell? ⟨g,k*5+2,none⟩=some (.int .u8 cu):=hv 2 (by decide);have d3:wr.cell? ⟨g,k*5+3,none⟩=some (.int .i64 li):=hv 3 (by decide);have d4:wr.cell? ⟨g,k*5+4,none⟩=some (.int .i64 db):=hv 4 (by decide);have HKL:=yH hkl;clear hv hx hcell hkl;unfold dbOf at NX;dsimp only at NX;have HS0:=BB.out.size
  by_cases hc1:cu=c
  ·have q1:(cu==c)=true:=by simpa using hc1
   by_cases hd:0<db
   ·have q2:decide (0<db)=true:=by simpa using hd
    rw[if_pos ⟨hc1,hd⟩]at NX;clear hd hc1;go_wp2_with (at_builtin;refine aGn _ rfl (.tmp 24) (.tmp 32) rfl w1.heap.size _ out rfl ((OO.out.alloc _).alloc _) (wr.heap.size+1) 1 (⟨de,cr,db⟩:Fw) (by simp[go_sem]) (pAB _ _ _ (by simp)) HLEN.out (by simp;omega) ?_);intro v3 w3 hown3 hgr3;have O3:=yH (show w3.ownsRow w1.heap.size 209 3 v3 (out++[(⟨de,cr,db⟩:Fw)]).length (aAn (out++[(⟨de,cr,db⟩:Fw)])) by simpa using hown3);have B3:=yH (((BB.out.alloc HS0 _).alloc (by simp;omega) _).grown hgr3 (by simp;omega) (fun k hk=>(aAe OO.out hk).1));clear hown3 hgr3;go_wp2_with fail;exact⟨⟨k+1,by have:=HKL.out;omega,by go_num,by rw[NX.out];exact O3.out,B3.out⟩,by simp[intOf];have:=HKL.out;omega⟩
   have q2:decide (0<db)=false:=by simpa using hd
   rw[if_neg (fun e=>hd e.2),List.append_nil]at NX;clear hd hc1;go_wp2_with fail;exact⟨⟨k+1,by have:=HKL.out;omega,by go_num,by rw[NX.out];exact OO.out.alloc _,BB.out.alloc HS0 _⟩,by simp[intOf];have:=HKL.out;omega⟩
  have q1:(cu==c)=false:=by simpa using hc1
  rw[if_neg (fun e=>hc1 e.1),List.append_nil]at NX;clear hc1;go_wp2_with fail;exact⟨⟨k+1,by have:=HKL.out;omega,by go_num,by rw[NX.out];exact OO.out.alloc _,BB.out.alloc HS0 _⟩,by simp[intOf];have:=HKL.out;omega⟩
 have hke:k=ls.length:=by omega
 subst hke;have OE:=OO.out;rw[List.take_length]at OE;have CS:=yH (sortE_any HP.out (aGg ls c) (debts_fit8 ls c) (by have:=aPu c ls;omega) OE);have OT:=yH OE;clear OE OO;go_wp2_with fail;refine CS.out.mono ?_;rintro e w2 ⟨rfl,ho2,hk2⟩;have B2:=yH (BB.out.trans (hk2.below BB.out.size (fun k hk he=>by have:=(aAe OT.out he).1;omega)));have CC:=yH (aI5 ho2);clear ho2 hk2 CS OT;go_wp2_with fail;refine CC.out.mono ?_;rintro e w3 ⟨v',rfl,hrow,_,rfl⟩;have HRow:=yH hrow;clear hrow CC;go_wp2_with fail;refine bodyPost_ret (v:=v') (by simp[results,Tryz.results206,go_sem]) rfl ?_;exact⟨v',rfl,HRow.out.base B1.out.size,B1.out.trans (B2.out.mono B1.out.size)⟩
def RestAt(W:World)(l:List Fw)(a b:Int)(i:Value)(wr:World):Prop:=∃k:Nat,k≤l.length∧i=.int .i64 k∧Hid (ofL l a b=ofN l a b (l.length - k))∧Below W.heap.size W wr
theorem rest_any{w:World}{ao:Option Addr}{cap:Nat}{l:List Fw}(hr:aFk w ao l)(hln:l.length≤240)(fr tt am:Int):
  Calls Tryz.prog 208 #[.slice ao l.length cap,.agg #[.int .u8 fr,.int .u8 tt,.int .i64 am]] w (yR w (.int .i64 (ofL l fr tt))):=by
 have HC:=yH hr;clear hr;go_enter Tryz.func208,Tryz.ntmps208;go_wp2_with fail;have KX:=yH (Blk.new w #[.int .u8 fr,.int .u8 tt,.int .i64 am] 209);have B0:=yH ((Below.refl w.heap.size w).alloc yL (.cells #[.int .u8 fr,.int .u8 tt,.int .i64 am] 209));generalize w.alloc (.cells #[.int .u8 fr,.int .u8 tt,.int .i64 am] 209)=W at KX B0 ⊢
 go_loopw [9] (RestAt W l fr tt) (fun i _=>l.length - (intOf i).toNat)
 case atStart=>exact⟨0,by omega,rfl,yH rfl,yZ⟩
 obtain⟨k,hk,rfl,HO,hB⟩:=hrel;have BB:=yH hB;have B1:=yT B0 hB;have kk:=KX.out.below hB KX.out.lt;have x0:=kk.cell 0;have x1:=kk.cell 1;simp at x0 x1;have hxl:=kk.lt;clear hB kk
 by_cases hkl:k<l.length
 ·have k0:(0:Int)≤(k:Int):=by omega
  have k1:(k:Int)<(l.length:Int):=by omega
  obtain⟨g,off,rfl,hbw,hcell⟩:=HC.out (by omega);obtain⟨c0,c1,c2⟩:=hcell k hkl;have e0:=(B1.out.cell (p:=⟨g,off+k*3,none⟩) hbw).trans c0;have e1:=(B1.out.cell (p:=⟨g,off+k*3+1,none⟩) hbw).trans c1;have e2:=(B1.out.cell (p:=⟨g,off+k*3+2,none⟩) hbw).trans c2;have NX:=yH (HO.out.trans (ofN_next l fr tt hkl));have HLT:=yH hkl;obtain⟨x,hx⟩:∃x,dbt l k=x:=⟨_,rfl⟩;rw[hx]at e0 e1 e2 NX;obtain⟨fx,tx,ax⟩:=x;dsimp only at e0 e1 e2 NX;clear hcell c0 c1 c2 hx HO;have BS:=BB.out.size
  by_cases h1:fx=fr
  ·have q1:(fx==fr)=true:=by simpa using h1
   by_cases h2:tx=tt
   ·have q2:(tx==tt)=true:=by simpa using h2
    have Rz:Hid (ofL l fr tt=ax):=yH (by rw[NX.out,if_pos ⟨h1,h2⟩]);clear h1 h2;go_wp2_with fail;go_ret;exact⟨by rw[Rz.out];rfl,B1.out.alloc B1.out.size _⟩
   have q2:(tx==tt)=false:=by simpa using h2
   have Rz:Hid (ofL l fr tt=ofN l fr tt (l.length - (k+1))):=yH (by rw[NX.out,if_neg (fun h=>h2 h.2)]);clear h1 h2;go_wp2_with fail;exact⟨⟨k+1,by have:=HLT.out;omega,by go_num,Rz,BB.out.alloc BS _⟩,by simp[intOf];have:=HLT.out;omega⟩
  have q1:(fx==fr)=false:=by simpa using h1
  have Rz:Hid (ofL l fr tt=ofN l fr tt (l.length - (k+1))):=yH (by rw[NX.out,if_neg (fun h=>h1 h.1)]);clear h1;go_wp2_with fail;exact⟨⟨k+1,by have:=HLT.out;omega,by go_num,Rz,BB.out.alloc BS _⟩,by simp[intOf];have:=HLT.out;omega⟩
 have hkn:k=l.length:=by omega
 subst hkn;have Rz:Hid (ofL l fr tt=0):=yH (by rw[HO.out,Nat.sub_self];rfl);go_wp2_with fail;go_ret;exact⟨by rw[Rz.out];rfl,B1.out⟩
theorem aOn(c:Int)(w:World):
  Calls Tryz.prog 205 #[.int .u8 c] w fun e w'=>e=.returned (.bool (decide (1≤c∧c≤8)))∧w'=w:=by
 by_cases h1:1≤c
 ·by_cases h2:c≤8
  ·rw[decide_eq_true (show 1≤c∧c≤8 from⟨h1,h2⟩)];go_enter Tryz.func205,Tryz.ntmps205;go_wp2_with fail;go_ret;exact⟨rfl,rfl⟩
  rw[decide_eq_false (show ¬(1≤c∧c≤8)from fun h=>h2 h.2)];go_enter Tryz.func205,Tryz.ntmps205;go_wp2_with fail;go_ret;exact⟨rfl,rfl⟩
 rw[decide_eq_false (show ¬(1≤c∧c≤8)from fun h=>h1 h.1)];go_enter Tryz.func205,Tryz.ntmps205;go_wp2_with fail;go_ret;exact⟨rfl,rfl⟩
theorem aT0{w:World}{g m:Nat}{ps:List Int}{ls:List Ln}(h:LedM w g m ps ls):
  Calls Tryz.prog 151 #[.pointer (some ⟨g,0,none⟩),.int .u8 0] w (yS w (.int .i64 1)):=by
 have C1:=yH (aF1 h.blk);have C2:=yH (aDd 0 w);rw[show mayP 0=false by rfl]at C2;clear h;go_enter Tryz.func151,Tryz.ntmps151;go_wp2_with fail;refine C1.out.mono ?_;rintro e w ⟨rfl,rfl⟩;go_wp2_with fail;refine C2.out.mono ?_;rintro e w ⟨rfl,rfl⟩;go_wp2_with fail;go_ret;exact⟨rfl,rfl⟩
def NpAt(W:World)(G M:Nat)(ps:List Int)(ls:List Ln)(c:Int)(D:List Fw)(L:Nat→Int)(gv i:Value)(wr:World):Prop:=
 ∃k:Nat,k≤D.length∧i=.int .i64 k∧gv=.int .i64 (sumN (fun m=>(dbt D m).am - L m) k)∧LedM wr G M ps (aKe ls c D L k)∧Keep (·=M) W wr
theorem pnet_at{w:World}{G M:Nat}{ps:List Int}{ls:List Ln}(hL:LedM w G M ps ls)(hI:LInv ps ls)(c q:Int)(hc:In8 c)(hq:In64 q):
  Calls Tryz.prog 158 #[.pointer (some ⟨G,0,none⟩),.int .u8 c,.int .i64 q] w fun e w'=>∃gone many er ms,aFf ls c q gone many er ms∧e=.returned (.tuple #[.int .i64 gone,.int .i64 many,.int .i64 er])∧LedM w' G M ps ms∧Keep (·=M) w w':=by
 have C1:=yH (aT0 hL);have H:=yH hL;have II:=yH hI;have hMw:=hL.map.lt
 by_cases hcm:1≤c∧c≤8
 case neg=>
  have CM:=yH (fun w=>aOn c w);rw[decide_eq_false hcm]at CM;have HN:=yH hcm;clear hL hI hcm;go_enter Tryz.func158,Tryz.ntmps158;go_wp2_with fail;refine C1.out.mono ?_;rintro e w ⟨rfl,rfl⟩;go_wp2_with fail;refine(CM.out _).mono ?_;rintro e w ⟨rfl,rfl⟩;go_wp2_with fail;refine bodyPost_ret (v:=.tuple #[.int .i64 0,.int .i64 0,.int .i64 1]) (by simp[results,Tryz.results158,go_sem]) rfl ?_;exact⟨0,0,1,ls,.inl ⟨fun e=>HN.out e.1,rfl,rfl,rfl,rfl⟩,rfl,H.out,Keep.refl _ _⟩
 have CM:=yH (fun w=>aOn c w);rw[decide_eq_true hcm]at CM;have HC:=yH hcm;have C2:=yH (pdebts_at hL hI c hc);have DM:=yH (aKd hI c);have DL:=yH (aTz hI c);clear hL hI hcm;go_enter Tryz.func158,Tryz.ntmps158;go_wp2_with fail;refine C1.out.mono ?_;rintro e w ⟨rfl,rfl⟩;go_wp2_with fail;refine(CM.out _).mono ?_;rintro e w ⟨rfl,rfl⟩;go_wp2_with fail;refine C2.out.mono ?_;rintro e w1 ⟨dv,rfl,hr,hb1⟩;obtain⟨D,hD⟩:∃D,aA4 ls c=D:=⟨_,rfl⟩;have ED:=yH hD;rw[hD]at hr DM DL;obtain⟨ao,rfl,_⟩:=aFz hr
 have HDf:aJg D:=fun m hm=>by
  obtain⟨⟨a1,a2⟩,⟨a3,a4⟩,_,a5,a6⟩:=DM.out.ok m hm;exact⟨⟨by omega,by omega⟩,⟨by omega,by omega⟩,by omega,by omega⟩
 have HD1:=yH (pAL (g:=M) hr (by have:=DL.out;omega) hMw);have B1:=yH hb1;have C3:=yH (pleast_any (cap:=D.length) HD1.out.ins HDf (by have:=DL.out;omega) q);have H1:=yH (H.out.below hb1);clear hr hb1 hD C1 C2 CM H HDf;go_wp2_with fail;refine C3.out.mono ?_;rintro e w2 ⟨hb2,hcase⟩;have B2:=yT B1 hb2;have H2:=yH (H1.out.below hb2);have DX:=yH (HD1.out.keep (pAD hb2));have hMw1:=yM hMw B1.out.size;clear C3 hb2 HD1 H1;rcases hcase with⟨hn,rfl⟩|⟨_,hq0,L,j,hLs,⟨hj,lv,rfl,hr⟩|⟨hj,rfl⟩⟩
 ·have hn0:¬0≤q:=fun e=>hn ⟨DM.out,e⟩
  clear hn;go_wp2_with fail;refine bodyPost_ret (v:=.tuple #[.int .i64 0,.int .i64 0,.int .i64 1]) (by simp[results,Tryz.results158,go_sem]) rfl ?_;exact⟨0,0,1,ls,.inl ⟨fun e=>by have:=e.2;omega,rfl,rfl,rfl,rfl⟩,rfl,H2.out,pAD B2.out⟩
 ·have HL:=yH hLs;have RO:=yH hLs.inv.ok
  have GB:=yH (fun k (hk:k≤D.length)=>aPc (g:=fun m=>(dbt D m).am - L m) (B:=1099511627776) k (fun m hm=>by
   have:=RO.out.lo m (by omega);have:=RO.out.hi m (by omega);have:=(DM.out.ok m (by omega)).2.2.2.2;omega))
  obtain⟨T,hT⟩:∃T,aMv D L=T:=⟨_,rfl⟩;have ET:=yH hT;rw[hT]at hr;have TL:Hid (T.length≤240):=yH (by rw[←hT];exact Nat.le_trans (aMw D L D.length) (by have:=DL.out;omega));obtain⟨lo,lc,hlv⟩:∃lo lc,lv=.slice lo T.length lc:=by obtain⟨lo,e,_⟩:=aFz hr;exact⟨lo,_,e⟩
  subst hlv;have LX:=yH (pAL (g:=M) hr (by have:=TL.out;omega) hMw1);clear hr hLs;go_wp2_with fail
  go_loopw [6,37] (fun gv i wr=>NpAt w2 G M ps ls c D L gv i wr) (fun _ i _=>D.length - (intOf i).toNat)
  case atStart=>exact⟨0,by omega,rfl,rfl,H2.out,Keep.refl _ _⟩
  obtain⟨k,hk,rfl,rfl,hRL,hKK⟩:=hrel;have LL:=yH hRL;have KK:=yH hKK;have DW:=yH (DX.out.keep hKK);have LW:=yH (LX.out.keep hKK);clear hRL hKK
  by_cases hkl:k<D.length
  ·have hki:(k:Int)<(D.length:Int):=by omega
   have hk0:(0:Int)≤(k:Int):=by omega
   obtain⟨db,doff,rfl,hdb,hdg,hdc⟩:=DW.out (by omega);obtain⟨d0,d1,d2⟩:=hdc k hkl;have NX:Hid (aKe ls c D L (k+1)=aBa (aKe ls c D L k) (dbt D k).tt (dbt D k).fr c ((dbt D k).am - L k)):=yH rfl;have IK:=yH (aJn II.out c D L k);have OF:=yH (ofL_left DM.out RO.out hkl);rw[ET.out]at OF;have SX:Hid (sumN (fun m=>(dbt D m).am - L m) (k+1)=sumN (fun m=>(dbt D m).am - L m) k+((dbt D k).am - L k)):=yH rfl;obtain⟨s0,s9⟩:=GB.out k hk;have hD64:=DL.out;have s8:sumN (fun m=>(dbt D m).am - L m) k≤70368744177664:=by omega
   have LO:=RO.out.lo k hkl;have LH:=RO.out.hi k hkl;obtain⟨_,_,_,ab,a9⟩:=DM.out.ok k hkl;have HKL:=yH hkl;generalize aKe ls c D L k=lk2 at *;generalize sumN (fun m=>(dbt D m).am - L m) k=s at *;generalize L k=lk at *;obtain⟨x,hx⟩:∃x,dbt D k=x:=⟨_,rfl⟩;have OK:=DM.out.ok k hkl;rw[hx]at NX SX OF d0 d1 d2 LH OK;clear hx hdc s9 hkl;obtain⟨fr,tt,am⟩:=x;obtain⟨⟨f1,f2⟩,⟨t1,t2⟩,_,ab,a9⟩:=OK;dsimp only at NX SX OF d0 d1 d2 ab a9 LH f1 f2 t1 t2;have KX0:=Blk.new wr #[.int .u8 fr,.int .u8 tt,.int .i64 am] 209;have BV:=yH ((Below.refl wr.heap.size wr).alloc yL (.cells #[.int .u8 fr,.int .u8 tt,.int .i64 am] 209))
   have CR:=yH (fun w' (k:Below (wr.alloc (.cells #[.int .u8 fr,.int .u8 tt,.int .i64 am] 209)).heap.size (wr.alloc (.cells #[.int .u8 fr,.int .u8 tt,.int .i64 am] 209)) w')=>(by
    have:=rest_any (cap:=lc) (LW.out.keep (pAD (BV.out.trans (k.mono BV.out.size)))).ins TL.out fr tt am;rw[OF.out]at this;exact this:Calls Tryz.prog 208 #[.slice lo T.length lc,.agg #[.int .u8 fr,.int .u8 tt,.int .i64 am]] w' fun e w''=>e=.returned (.int .i64 lk)∧Below w'.heap.size w' w''))
   have KX:=yH KX0;clear KX0;go_wp2_with fail;clear d0 d1 d2;generalize hX:wr.heap.size=X at KX ⊢;generalize (wr.alloc (.cells #[.int .u8 fr,.int .u8 tt,.int .i64 am] 209))=V at KX BV CR ⊢
   refine aAm (by kernel_rfl) [(.pointer (some ⟨X,2,none⟩)),(.int .i64 am),(.slice lo T.length lc),(.agg #[.int .u8 fr,.int .u8 tt,.int .i64 am]),(.int .i64 lk),(.int .i64 (am - lk)),(.int .i64 (am - lk))]
    (fun w'=>Below V.heap.size V w') (by kernel_rfl) yZ.drew ?_
   intro af haf;simp only[yG,List.append_eq,List.cons_append,List.nil_append,puts,Act.put,yA,yC,yF,yD,yE]at haf;subst haf;refine⟨?_,?_⟩
   ·simp only[yG,List.append_eq,List.cons_append,List.nil_append,aBf];refine⟨?z1,?z5,?z2,?z6,?_,?z3,?z4,trivial⟩
    case z1|z2|z3|z4=>
     intro w' hS;refine yO rfl ?_;have HS:=yH hS;clear hS;go_wp2_with fail;all_goals first|exact HS|exact⟨rfl,HS⟩|rfl|exact⟨by omega,HS.out⟩
    case z5|z6=>
     intro w' hS;refine yO rfl ?_;have d0_0:=(KX.out.below hS KX.out.lt).cell 0;have d0_1:=(KX.out.below hS KX.out.lt).cell 1;have d0_2:=(KX.out.below hS KX.out.lt).cell 2;simp at d0_0 d0_1 d0_2;have HS:=yH hS;clear hS;go_wp2_with fail;all_goals first|exact HS|exact⟨rfl,HS⟩|rfl|exact⟨by omega,HS.out⟩
    intro w' hS;refine yO rfl ?_;have HS:=yH hS;clear hS;go_wp2_with fail;refine(CR.out w' HS.out).mono ?_;rintro e w'' ⟨rfl,hb2⟩;exact⟨rfl,andB HS.out hb2⟩
   intro V2 hS2;have KX2:=KX.out.below hS2 KX.out.lt;have x0:=KX2.cell 0;have x1:=KX2.cell 1;simp at x0 x1;have BV2:=yT BV hS2;have L2:=yH (LL.out.below BV2.out);have K2:=yH (KK.out.trans (pAD BV2.out));clear hS2 KX2
   by_cases hp:0<am - lk
   ·have q8:lk<am:=by omega
    have CF:=yH (aSr L2.out IK.out.inv (a:=tt) (b:=fr) (c:=c) (n:=am - lk) ⟨by omega,by omega⟩ ⟨by omega,by omega⟩ hc ⟨by omega,by omega⟩);rw[←NX.out]at CF;have hp2:am - lk≤1099511627776:=by omega
    clear hp;go_wp2_with fail;refine CF.out.mono ?_;rintro e V3 ⟨rfl,hl3,hk3⟩;have L3:=yH hl3;have K3:=yH (K2.out.trans hk3);clear hl3 hk3;go_wp2_with fail;exact⟨⟨k+1,by have:=HKL.out;omega,by go_num,by rw[SX.out],L3.out,K3.out⟩,by simp[intOf];have:=HKL.out;omega⟩
   have q8:¬lk<am:=by omega
   rw[aKv (by omega)]at NX;have hz:am - lk=0:=by omega
   rw[hz,Int.add_zero]at SX;clear hp hz;go_wp2_with fail;exact⟨⟨k+1,by have:=HKL.out;omega,by go_num,by rw[SX.out],by rw[NX.out];exact L2.out,K2.out⟩,by simp[intOf];have:=HKL.out;omega⟩
  have hke:k=D.length:=by omega
  subst hke;have TT:=(net_is II.out c (L:=L) (by rw[ED.out];exact RO.out)).tot c;rw[if_pos rfl,ED.out]at TT;have GO:Hid (sumN (fun m=>(dbt D m).am - L m) D.length=totL ls c - totL (ntL ls c L) c):=yH (by omega);have EN:Hid (ntL ls c L=aKe ls c D L D.length):=yH (by unfold ntL;rw[ED.out]);rw[GO.out];clear TT;go_wp2_with fail;refine bodyPost_ret (v:=.tuple #[.int .i64 (totL ls c - totL (ntL ls c L) c),.int .i64 j,.int .i64 0]) (by simp[results,Tryz.results158,go_sem]) rfl ?_;exact⟨_,_,_,ntL ls c L,.inr ⟨HC.out,hq0,L,j,by rw[ED.out];exact HL.out,.inl ⟨hj,rfl,rfl,rfl,rfl⟩⟩,rfl,by rw[EN.out];exact LL.out,(pAD B2.out).trans KK.out⟩
 have HL:=yH hLs;clear hLs;go_wp2_with fail;refine bodyPost_ret (v:=.tuple #[.int .i64 0,.int .i64 0,.int .i64 13]) (by simp[results,Tryz.results158,go_sem]) rfl ?_;exact⟨0,0,13,ls,.inr ⟨HC.out,hq0,L,j,by rw[ED.out];exact HL.out,.inr ⟨hj,rfl,rfl,rfl,rfl⟩⟩,rfl,H2.out,pAD B2.out⟩
theorem pnet_any:aTi:=⟨pnet_at⟩
structure V5 where
 a:Value
 b:Value
 c:Value
 d:Value
 e:Value
structure GV where
 g:Nat
 v:V5
def noV:V5:=⟨undef,undef,undef,undef,undef⟩
def LayI(c d e:Nat)(W:World)(T:TypeId)(zs:Array Value)(cs:V5→Array Value)(R:V5→World→Prop)(s:GV)(D:Nat→Bool)(w:World):Prop:=
 Below W.heap.size W w∧(D c=true→R s.v w)∧(D d=true→W.heap.size≤s.g∧Blk w s.g (if D e=true then cs s.v else zs) T)
section
variable{c d e:Nat}{W w w':World}{T:TypeId}{zs:Array Value}{cs:V5→Array Value}{R:V5→World→Prop}{s:GV}{D:Nat→Bool}
theorem LayI.start:LayI c d e W T zs cs R s (fun _=>false) W.drew:=⟨yZ.drew,fun h=>(Bool.false_ne_true h).elim,fun h=>(Bool.false_ne_true h).elim⟩
theorem aIw{k j:Nat}(h:j≠k):ins k D j=D j:=by simp[ins,h]
theorem insC_eq(k:Nat):ins k D k=true:=by simp[ins]
theorem LayI.keep(h:LayI c d e W T zs cs R s D w)(k:Nat)(hk:c≠k∧d≠k∧e≠k):LayI c d e W T zs cs R s (ins k D) w:=by
 unfold LayI at h ⊢;rw[aIw hk.1,aIw hk.2.1,aIw hk.2.2];exact h
theorem LayI.call(h:LayI c d e W T zs cs R s D w)(hk:d≠c∧e≠c)(he:D e=false)(x:V5)(hR:R x w')(hb:Below w.heap.size w w'):LayI c d e W T zs cs R ⟨s.g,x⟩ (ins c D) w':=by
 refine⟨andB h.1 hb,fun _=>hR,fun q=>?_⟩;rw[aIw hk.1]at q;obtain⟨h1,h2⟩:=h.2.2 q;rw[he]at h2;rw[aIw hk.2,he];exact⟨h1,h2.below hb h2.lt⟩
theorem LayI.lay(h:LayI c d e W T zs cs R s D w)(hk:c≠d∧e≠d)(he:D e=false)(hl:∀x w w',R x w→Below w.heap.size w w'→R x w'):LayI c d e W T zs cs R ⟨w.heap.size,s.v⟩ (ins d D) (w.alloc (.cells zs T)):=by
 have b:=(Below.refl w.heap.size w).alloc yL (.cells zs T);refine⟨andB h.1 b,fun q=>?_,fun _=>⟨h.1.size,?_⟩⟩
 ·rw[aIw hk.1]at q;exact hl _ _ _ (h.2.1 q) b
 rw[aIw hk.2,he];exact Blk.new _ _ _
theorem LayI.fill(h:LayI c d e W T zs cs R s D w)(hk:c≠e∧d≠e)(hc:D c=true)(hd:D d=true)(he:D e=false)(hl:∀x w g,R x w→Blk w g zs T→R x (w.setRow g (cs x))):LayI c d e W T zs cs R s (ins e D) (w.setRow s.g (cs s.v)):=by
 obtain⟨h1,h2⟩:=h.2.2 hd;rw[he]at h2;refine⟨below_setRow h.1 h1 _,fun _=>hl _ _ _ (h.2.1 hc) h2,fun _=>⟨h1,?_⟩⟩;rw[if_pos (insC_eq e)];exact setRow_heap w s.g _ (cs s.v) T (0,0) h2
theorem LayI.res(h:LayI c d e W T zs cs R s D w)(hc:D c=true):R s.v w:=h.2.1 hc
theorem LayI.old(h:LayI c d e W T zs cs R s D w):Below W.heap.size W w:=h.1
theorem aJr{af a':Act}{o:Oper}{Q:Value→World→Prop}{w:World}(v:Value)(hv:a'=af.put o.dst v)(h:Q v w):LeftBy af o Q a' w:=⟨v,hv,h⟩
theorem LayI.blk(h:LayI c d e W T zs cs R s D w)(hd:D d=true)(he:D e=false):Blk w s.g zs T:=by
 have h2:=(h.2.2 hd).2
 rwa [he]at h2
end
end Go.Proofs.YtngnfdnfpiiclaaGreat
