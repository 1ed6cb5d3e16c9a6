/- Pieces of one proof. -/
import Derived.Test.YtaeocliklpcgmaaGreatW22
import Derived.Laws.AppendOwnNone
set_option linter.all false
set_option maxHeartbeats 64000000
set_option maxRecDepth 100000
namespace Go.Proofs.YtaeocliklpcgmaaGreat
open Go.RowKit
attribute [local go_sem] Oper.semAt_some
theorem aF5{p:Of→Bool}:∀{l:List Of} {k:Nat} (hk:k<l.length),k≤(l.takeWhile p).length→(p l[k]=true→k<(l.takeWhile p).length∧(l.takeWhile p)[k]? = some l[k])∧(p l[k]=false→(l.takeWhile p).length≤k)
 | [],k,hk,_=>absurd hk (by simp)
 | z::l,0,hk,_=>by
  constructor
  ·intro h;have h':p z=true:=h;rw[List.takeWhile_cons,if_pos h'];simp
  ·intro h;have h':p z=false:=h;rw[List.takeWhile_cons,if_neg (by simp[h'])];simp
 | z::l,k+1,hk,h1=>by
  rw[List.takeWhile_cons]at h1 ⊢
  by_cases h:p z=true
  ·rw[if_pos h]at h1 ⊢;have hk':k<l.length:=by simpa using hk
   obtain⟨a,b⟩:=aF5 (p:=p) hk' (by simpa using h1);exact⟨fun q=>by obtain⟨a1,a2⟩:=a q;exact⟨by simpa using a1,by simpa using a2⟩,fun q=>by have:=b q;simpa using this⟩
  rw[if_neg h]at h1;simp at h1
theorem aH1(p:Of→Bool):∀l:List Of,(l.takeWhile p).length≤l.length
 | []=>by simp
 | z::l=>by
  rw[List.takeWhile_cons];have:=aH1 p l;split
  ·simp only[List.length_cons];omega
  simp
theorem aOv(x:Of)(b:Option Addr)(w:World):
  Calls Tryz.prog 148 #[.agg #[.int .u64 x.se,.int .u8 x.ow,.int .u8 x.sl,.int .u8 x.bu,.int .i64 x.lf,.int .i64 x.nu,.int .i64 x.de],.pointer b] w fun e w'=>e=.returned (.func (.func 189) #[] #[(.pointer (some ⟨w.heap.size,0,none⟩)),(.pointer (some ⟨w.heap.size+1,0,none⟩))])∧w'=(w.alloc (.cells #[.int .u64 x.se,.int .u8 x.ow,.int .u8 x.sl,.int .u8 x.bu,.int .i64 x.lf,.int .i64 x.nu,.int .i64 x.de] 100)).alloc (.cells #[.pointer b] 29):=by
 go_enter Tryz.func148,Tryz.ntmps148;go_wp2;go_ret;exact⟨rfl,rfl⟩
theorem aBb.old{w w':World}{B l base size n:Nat}{e:TypeId}{v:Value}{xs:List Value}(h:aBb w base e size v n xs)(k:aLk B l w w')(hB:B≤base)(hl:l<base):aBb w' base e size v n xs:=by
 obtain⟨h1,h2|⟨g,cs,hv,hg,hb,h3,h4,h5⟩⟩:=h
 ·exact⟨h1,.inl h2⟩
 exact⟨h1,.inr ⟨g,cs,hv,hg,Blk.old hb k (by omega) (by omega),h3,h4,h5⟩⟩
def AgIt(J:Nat→World→Prop)(W0:World)(g:Nat)(nu de:Int)(os:List Of)(m:Nat)(v i:Value)(wr:World):Prop:=
 ∃k:Nat,i=.int .i64 k∧k≤m∧J k wr∧Blk wr g #[.int .i64 de,.int .i64 nu] 46∧aBb wr W0.heap.size 48 7 v os.length (aAa os)∧W0.heap.size≤wr.heap.size
theorem aOw{I:Nat→World→Prop}{b1 b2 base gb:Nat}{l:List Of}{N:Int}{vb:Value}(x:Of)(hx:x.Fits)(hm:mayB x.nu x.de=true)(hJ:BInv l N)
  (hI:∀k W,I k W→PB W base gb l N vb∧Blk W b1 #[.int .u64 x.se,.int .u8 x.ow,.int .u8 x.sl,.int .u8 x.bu,.int .i64 x.lf,.int .i64 x.nu,.int .i64 x.de] 100∧Blk W b2 #[(.pointer (some ⟨gb,0,none⟩))] 29):
  SeqK Tryz.prog 189 #[(.pointer (some ⟨b1,0,none⟩)),(.pointer (some ⟨b2,0,none⟩))] 0 (fun k=>(agO l x.sl x.bu x.nu x.de).length≤k) (fun k vs _=>∃o:Of,(agO l x.sl x.bu x.nu x.de)[k]? = some o∧vs=#[.agg #[.int .u64 o.se,.int .u8 o.ow,.int .u8 o.sl,.int .u8 o.bu,.int .i64 o.lf,.int .i64 o.nu,.int .i64 o.de]]) (fun k k'=>k'=k+1) I:=by
 intro n lb B J Jx hgrow hJI hY W0 h0 hB hlb;obtain⟨hP,k1,k2⟩:=hI 0 W0 (hJI 0 W0 h0);have GR:=yH hgrow;have JI:=yH hJI;have HY:=yH hY;have HI:=yH hI;have J0:=yH h0;have HP:=yH hP;have HB:=yH (And.intro hB hlb);have CI:=yH (fun w=>aGg x.nu x.de w hx.nu hx.de);rw[show alN x.nu x.de=x.nu by unfold alN;rw[if_pos hm],show alD x.nu x.de=x.de by unfold alD;rw[if_pos hm]]at CI;have CC:=yH (fun(o:Of) w (ho:o∈aGm l x.bu x.sl)=>aJf o.nu o.de x.de x.nu w (by have:=aC3 (hJ.may o (aLh hJ ho).1).2.2.2.2.2;unfold In64;omega) (by have:=aC3 (hJ.may o (aLh hJ ho).1).2.2.2.2.2;unfold In64;omega) hx.de hx.nu);have CB:=yH (fun w' (h:PB w' base gb l N vb)=>pbest_any h hJ x.bu x.sl);obtain⟨m,hmm⟩:∃m,(agO l x.sl x.bu x.nu x.de).length=m:=⟨_,rfl⟩;have TW:=yH (fun(k:Nat) (hk:k<(aGm l x.bu x.sl).length) (h:k≤m)=>aF5 (p:=fun o:Of=>decide (cmpR o.nu o.de x.de x.nu≤0)) hk (by rw[←hmm]at h;exact h));have TL:=yH (show m≤(aGm l x.bu x.sl).length by rw[←hmm];exact aH1 _ _);have AG:=yH (show(aGm l x.bu x.sl).takeWhile (fun o:Of=>decide (cmpR o.nu o.de x.de x.nu≤0))=agO l x.sl x.bu x.nu x.de from rfl);rw[AG.out,hmm]at TW;rw[hmm];obtain⟨ag,hag⟩:∃ag,agO l x.sl x.bu x.nu x.de=ag:=⟨_,rfl⟩;rw[hag]at TW HY;generalize hos:aGm l x.bu x.sl=os at *;have d2:=k1.cell 2;have d3:=k1.cell 3;have d5:=k1.cell 5;have d6:=k1.cell 6;have dl:=k1.lt;have e0:=k2.cell 0;have el:=k2.lt;simp at d2 d3 d5 d6 e0;have K1:=yH k1;have K2:=yH k2;clear hgrow hJI hY hI h0 hP hB hlb hx hm hJ k1 k2 hmm AG hag hos;refine callsIn_of_wp Tryz.func189 rfl trivial ?_ rfl;simp only[Tryz.ntmps189,List.size_toArray,List.length_cons,List.length_nil,Nat.reduceAdd,Nat.reduceSub,Array.replicate_succ,Array.replicate_zero,List.push_toArray,List.append_toArray,List.nil_append,List.cons_append]
 gi_wp2_with fail
 refine⟨trivial,(fun hh=>(by cases hh)),(callsIn_wide.2 (CI.out _)).mono ?_⟩;rintro e w1 ⟨rfl,hb1⟩;have J1:=yH (GR.out 0 W0 w1 J0.out hb1);have bg:=(Below.refl w1.heap.size w1).alloc yL (.cells #[.int .i64 x.de,.int .i64 x.nu] 46);have KG:=yH (pAA w1 #[.int .i64 x.de,.int .i64 x.nu] 46);have J2:=yH (GR.out 0 w1 _ J1.out bg);have bw:=hb1.trans (bg.mono hb1.size);have SZ:=yH (show W0.heap.size≤w1.heap.size∧W0.heap.size≤(w1.alloc (.cells #[.int .i64 x.de,.int .i64 x.nu] 46)).heap.size from⟨hb1.size,bw.size⟩);have K1b:=yB K1 bw;have K2b:=yB K2 bw;have CB2:=yH (CB.out _ (HP.out.below bw));clear hb1 bg bw d2 d3 d5 d6 dl e0 el J0 J1 K1 K2 CB HP CI;have d2:=K1b.out.cell 2;have d3:=K1b.out.cell 3;have dl:=K1b.out.lt;have e0:=K2b.out.cell 0;have el:=K2b.out.lt;simp at d2 d3 e0
 gi_wp2_with fail
 generalize w1.alloc (.cells #[.int .i64 x.de,.int .i64 x.nu] 46)=w2 at *;refine⟨trivial,(fun hh=>(by cases hh)),(callsIn_wide.2 CB2.out).mono ?_⟩;rintro e w3 ⟨v,rfl,hv,hb3⟩;have J3:=yH (GR.out 0 w2 w3 J2.out hb3);have KG3:=yB KG hb3;have RW:=yH (hv.base SZ.out.2);have SZ3:=yH (Nat.le_trans SZ.out.2 hb3.size);obtain⟨ao,cap,rfl,hc1,hc2,_,_⟩:=hv.look;unfold maxLen at hc2;clear hv hb3 d2 d3 dl e0 el J2 KG K1b K2b CB2
 gi_wp2_with fail
 gi_loopw [6,17,19,20,21,22,23,24,25,26,27,28,29,30,31,32] (fun _ i _ _ _ _ _ _ _ _ _ _ _ _ _ _ wr=>AgIt J W0 w1.heap.size x.nu x.de os m (.slice ao os.length cap) i wr) (fun _ i _ _ _ _ _ _ _ _ _ _ _ _ _ _ _=>os.length - (intOf i).toNat)
 case atStart=>exact⟨0,rfl,Nat.zero_le _,J3.out,KG3.out,RW.out,SZ3.out⟩
 obtain⟨k,rfl,hkm,hj,hg,hr,hs⟩:=hrel;have JR:=yH hj;have KR:=yH hg;have RR:=yH hr;have HS:=yH hs;have HKM:=yH hkm
 by_cases hkl:k<os.length
 ·have q0:decide ((k:Int)<(os.length:Int))=true:=by simpa using hkl
  have hki:(k:Int)<(os.length:Int):=by omega
  have hk0:(0:Int)≤(k:Int):=by omega
  obtain⟨_,_,hvv,_,_,_,hcc⟩:=hr.look
  cases hvv
  obtain⟨b,rfl,_,hb,hc,_⟩:=hcc (by omega);obtain⟨e0,e1,e2,e3,e4,e5,e6⟩:=aCp (w:=wr) hc hkl;have T:=yH (TW.out k hkl hkm);have CC1:=yH (fun w=>CC.out os[k] w (List.getElem_mem hkl));have HKL:=yH hkl;clear hj hg hr hs hkm hcc hc;generalize os[k]=o at *;clear hkl;have bo:=(Below.refl wr.heap.size wr).alloc yL (.cells #[.int .u64 o.se,.int .u8 o.ow,.int .u8 o.sl,.int .u8 o.bu,.int .i64 o.lf,.int .i64 o.nu,.int .i64 o.de] 48);have KO:=yH (pAA wr #[.int .u64 o.se,.int .u8 o.ow,.int .u8 o.sl,.int .u8 o.bu,.int .i64 o.lf,.int .i64 o.nu,.int .i64 o.de] 48);have JR4:=yH (GR.out k wr _ JR.out bo);have KR4:=yB KR bo;have RR4:=yH (RR.out.below bo);have HS4:=yH (Nat.le_trans HS.out bo.size);clear bo JR KR RR HS;obtain⟨c,hcv⟩:∃c,cmpR o.nu o.de x.de x.nu=c:=⟨_,rfl⟩;rw[hcv]at T CC1;clear hcv;have g0:=KR4.out.cell 0;have g1:=KR4.out.cell 1;have gl:=KR4.out.lt;have o0:=KO.out.cell 0;have o1:=KO.out.cell 1;have o2:=KO.out.cell 2;have o3:=KO.out.cell 3;have o4:=KO.out.cell 4;have o5:=KO.out.cell 5;have o6:=KO.out.cell 6;have ol:=KO.out.lt;simp at g0 g1 o0 o1 o2 o3 o4 o5 o6
  gi_wp2_with fail
  generalize wr.alloc (.cells #[.int .u64 o.se,.int .u8 o.ow,.int .u8 o.sl,.int .u8 o.bu,.int .i64 o.lf,.int .i64 o.nu,.int .i64 o.de] 48)=w4 at *;refine⟨trivial,(fun hh=>(by cases hh)),(callsIn_wide.2 (CC1.out _)).mono ?_⟩;rintro e w5 ⟨rfl,hb5⟩;have JR5:=yH (GR.out k w4 _ JR4.out hb5);have KR5:=yB KR4 hb5;have RR5:=yH (RR4.out.below hb5);have HS5:=yH (Nat.le_trans HS4.out hb5.size);have KO5:=yB KO hb5;clear hb5 g0 g1 gl o0 o1 o2 o3 o4 o5 o6 ol e0 e1 e2 e3 e4 e5 e6 JR4 KR4 RR4 HS4 KO CC1 hb;have o0:=KO5.out.cell 0;have o1:=KO5.out.cell 1;have o2:=KO5.out.cell 2;have o3:=KO5.out.cell 3;have o4:=KO5.out.cell 4;have o5:=KO5.out.cell 5;have o6:=KO5.out.cell 6;have ol:=KO5.out.lt;simp at o0 o1 o2 o3 o4 o5 o6
  by_cases hle:c≤0
  ·have q1:decide (c > 0)=false:=by simp;omega
   have q2:decide (0<c)=false:=by simp;omega
   obtain⟨t1,t2⟩:=T.out.1 (by simpa using hle);obtain⟨fn,tmps,assign,body,hy,hR⟩:=HY.out (n - 1) k #[.agg #[.int .u64 o.se,.int .u8 o.ow,.int .u8 o.sl,.int .u8 o.bu,.int .i64 o.lf,.int .i64 o.nu,.int .i64 o.de]] w5 JR5.out ⟨o,t2,rfl⟩;have RY:=yH hR;have HT1:=yH t1;clear hle t1 t2 hR T
   gi_wp2_with fail
   refine⟨(fun hh=>(by cases hh)),RY.out.mono ?_⟩;rintro e W6 ⟨hof,(⟨rfl,k',rfl,hj⟩|⟨rfl,hjx⟩)⟩
   ·have JN:=yH hj;have KN:=yH (Blk.old KR5.out hof (by have:=HB.out;have:=SZ.out;omega) (by have:=HB.out;have:=SZ.out;omega));have RN:=yH (RR5.out.old hof (by have:=HB.out;omega) (by have:=HB.out;omega));have HN:=yH (Nat.le_trans HS5.out hof.size);clear hj hof RY o0 o1 o2 o3 o4 o5 o6 ol hy
    gi_wp2_with fail
    go_roundw
    case rel=>exact⟨k+1,by go_num,HT1.out,JN.out,KN.out,RN.out,HN.out⟩
    case measure=>simp[intOf];have:=HKL.out;omega
   have HX:=yH hjx;clear hjx hof RY o0 o1 o2 o3 o4 o5 o6 ol hy
   gi_wp2_with fail
   refine bodyPost_ret (results_none rfl _ _ _) rfl ?_;exact⟨⟨_,rfl⟩,.inr HX.out⟩
  have q1:decide (c > 0)=true:=by simp;omega
  have q2:decide (0<c)=true:=by simp;omega
  have HE:=yH (T.out.2 (by simpa using hle));clear hle T
  gi_wp2_with fail
  refine⟨fun _ h=>(by cases h),?_⟩
  gi_wp2_with fail
  refine bodyPost_ret (results_none rfl _ _ _) rfl ?_;exact⟨⟨_,rfl⟩,.inl ⟨k,HE.out,JR5.out⟩⟩
 have q0:decide ((k:Int)<(os.length:Int))=false:=by simpa using hkl
 have q1:decide (k<os.length)=false:=by simpa using hkl
 have HE:=yH (show m≤k by have:=TL.out;omega);clear hj hg hr hs hkm hkl
 gi_wp2_with fail
 go_end0;exact⟨⟨_,rfl⟩,.inl ⟨k,HE.out,JR.out⟩⟩
end Go.Proofs.YtaeocliklpcgmaaGreat
namespace Go.Proofs.YtaeocliklpcgmaaGreat
open Go.RowKit
attribute [local go_sem] Oper.semAt_some
structure FsM(w:World)(G M gb base:Nat)(ps:List Int)(ls:List Ln)(l:List Of)(N:Int)(vb:Value)(x:Of)(W:World):Prop where
 below:Below w.heap.size w W
 c:Blk W w.heap.size #[.int .u64 x.se,.int .u8 x.ow,.int .u8 x.sl,.int .u8 x.bu,.int .i64 x.lf,.int .i64 x.nu,.int .i64 x.de] 100
 h:Blk W (w.heap.size+1) #[.pointer (some ⟨G,0,none⟩),.pointer (some ⟨gb,0,none⟩)] 31
 sq:Blk W (w.heap.size+2) #[.int .u64 0] 39
 nn:∃v:Int,Blk W (w.heap.size+3) #[.int .i64 v] 2
 led:LedM W G M ps ls
 book:PB W base gb l N vb
 c4:Blk W (w.heap.size+4) #[.int .u64 x.se,.int .u8 x.ow,.int .u8 x.sl,.int .u8 x.bu,.int .i64 x.lf,.int .i64 x.nu,.int .i64 x.de] 100
 c5:Blk W (w.heap.size+5) #[(.pointer (some ⟨gb,0,none⟩))] 29
 lt:G<w.heap.size∧M<w.heap.size∧∀b,Foot gb vb b→b<w.heap.size
theorem FsM.keep{S:Nat→Prop}{w:World}{G M gb base:Nat}{ps:List Int}{ls:List Ln}{l:List Of}{N:Int}{vb:Value}{x:Of}{W W':World}(h:FsM w G M gb base ps ls l N vb x W)(k:Keep S W W')(hS:∀j,S j→w.heap.size+6≤j):FsM w G M gb base ps ls l N vb x W':=by
 have q:∀j,j<w.heap.size+6→¬S j:=fun j hj hs=>by have:=hS j hs;omega
 obtain⟨v,hv⟩:=h.nn;obtain⟨l1,l2,l3⟩:=h.lt
 exact⟨h.below.trans (k.below h.below.size (fun j hj hs=>q j (by omega) hs)),h.c.keep k (q _ (by omega)),h.h.keep k (q _ (by omega)),h.sq.keep k (q _ (by omega)),⟨v,hv.keep k (q _ (by omega))⟩,
  h.led.keep k (q _ (by omega)) (q _ (by omega)),h.book.keep k (q _ (by have:=l3 gb (.inl rfl);omega)) (fun b hb hs=>q b (by have:=l3 b (.inr hb);omega) hs),h.c4.keep k (q _ (by omega)),h.c5.keep k (q _ (by omega)),h.lt⟩
theorem FsM.setN{w:World}{G M gb base:Nat}{ps:List Int}{ls:List Ln}{l:List Of}{N:Int}{vb:Value}{x:Of}{W:World}(h:FsM w G M gb base ps ls l N vb x W)(v:Int):FsM w G M gb base ps ls l N vb x (W.setCell ⟨w.heap.size+3,0,none⟩ (.int .i64 v)):=by
 have k:Keep (fun j=>j=w.heap.size+3) W (W.setCell ⟨w.heap.size+3,0,none⟩ (.int .i64 v)):=Keep.setCell (S:=fun j=>j=w.heap.size+3) (Keep.refl _ _) (p:=⟨w.heap.size+3,0,none⟩) (.inl rfl) _;obtain⟨u,hu⟩:=h.nn;obtain⟨l1,l2,l3⟩:=h.lt
 exact⟨h.below.trans (k.below h.below.size (fun j hj hs=>by omega)),h.c.keep k (by omega),h.h.keep k (by omega),h.sq.keep k (by omega),⟨v,hu.set 0 _⟩,
  h.led.keep k (by omega) (by omega),h.book.keep k (by have:=l3 gb (.inl rfl);omega) (fun b hb hs=>by have:=l3 b (.inr hb);omega),h.c4.keep k (by omega),h.c5.keep k (by omega),h.lt⟩
def FsI(w:World)(G M gb base:Nat)(ps:List Int)(ls:List Ln)(l:List Of)(N:Int)(vb:Value)(x:Of)(k:Nat)(W:World):Prop:=
 FsM w G M gb base ps ls l N vb x W∧aA6 ps ls l x.ow x.ow 1099511627776 x.lf (agO l x.sl x.bu x.nu x.de)=aA6 ps ls l x.ow x.ow 1099511627776 x.lf ((agO l x.sl x.bu x.nu x.de).drop k)
def FsX(w:World)(ps:List Int)(ls:List Ln)(l:List Of)(x:Of)(c:Code)(W:World):Prop:=
 c=.ret∧∃s n:Int,Below w.heap.size w W∧Blk W (w.heap.size+2) #[.int .u64 s] 39∧Blk W (w.heap.size+3) #[.int .i64 n] 2∧aA6 ps ls l x.ow x.ow 1099511627776 x.lf (agO l x.sl x.bu x.nu x.de)=some (s,n)
theorem fits_FsI{w:World}{G M gb base:Nat}{ps:List Int}{ls:List Ln}{l:List Of}{N:Int}{vb:Value}{x:Of}{B:Nat}(hB:w.heap.size+6≤B)(k:Nat):Fits B (FsI w G M gb base ps ls l N vb x k):=
 ⟨fun W W' h q=>⟨h.1.keep (pAD (S:=fun _=>False) q) (fun j hj=>hj.elim),h.2⟩,fun W lo o o' h hl hg ho=>⟨h.1.keep (aI8 W o') (fun j hj=>by omega),h.2⟩⟩
theorem fits_FsX{w:World}{ps:List Int}{ls:List Ln}{l:List Of}{x:Of}{B:Nat}(hB:w.heap.size+6≤B)(c:Code):Fits B (FsX w ps ls l x c):=
 ⟨fun W W' ⟨h1,s,n,h2,h3,h4,h5⟩ q=>⟨h1,s,n,h2.trans (q.mono h2.size),h3.below q h3.lt,h4.below q h4.lt,h5⟩,
  fun W lo o o' ⟨h1,s,n,h2,h3,h4,h5⟩ hl hg ho=>⟨h1,s,n,h2.trans (aEa W o' (by omega)),h3.turn hg ho o',h4.turn hg ho o',h5⟩⟩
theorem fs_body(HMy:aD4){w:World}{G M gb base:Nat}{ps:List Int}{ls:List Ln}{l:List Of}{N:Int}{vb:Value}{x:Of}{W:World}{b B m0 lo k:Nat}{o:Of}{c0 c1 c7 c8 c9 c10 c11 c12 c13 c14 c15 c16 c17 c18 c19 c20 c21 c22 c23 c24 c25 c26:Value}
  (hI:LInv ps ls)(hJ:BInv l N)(hx:x.Fits)(hM:FsI w G M gb base ps ls l N vb x k W)(ho:(agO l x.sl x.bu x.nu x.de)[k]? = some o)(hb:Blk W b #[.int .u64 o.se,.int .u8 o.ow,.int .u8 o.sl,.int .u8 o.bu,.int .i64 o.lf,.int .i64 o.nu,.int .i64 o.de] 48)(hB:w.heap.size+6≤B):
  Code.wpIn (Fence.wide.inRound lo) m0 Tryz.prog (((Tryz.f103.body).bind aCm).getD .skip) (aM2 B (FsI w G M gb base ps ls l N vb x) (FsX w ps ls l x) (fun k k'=>k'=k+1) k W) ⟨#[c0,c1,(.pointer (some ⟨w.heap.size,0,none⟩)),(.pointer (some ⟨w.heap.size+1,0,none⟩)),(.pointer (some ⟨w.heap.size+2,0,none⟩)),(.pointer (some ⟨w.heap.size+3,0,none⟩)),(.pointer (some ⟨b,0,none⟩)),c7,c8,c9,c10,c11,c12,c13,c14,c15,c16,c17,c18,c19,c20,c21,c22,c23,c24,c25,c26],[]⟩ W:=by
 conv=>arg 4;whnf
 have hk:=(List.getElem?_eq_some_iff.1 ho).1;have hok:(agO l x.sl x.bu x.nu x.de)[k]=o:=(List.getElem?_eq_some_iff.1 ho).2;have hmem:o∈agO l x.sl x.bu x.nu x.de:=by rw[←hok];exact List.getElem_mem hk
 have hse:=hJ.bd o (mem_ag hJ hmem).1;have hn2:=hJ.n2;have CM:=yH (pmayS_any HMy hM.1.led hI hM.1.book hJ o.se x.ow x.ow 1099511627776 x.lf (by omega) hx.ow hx.ow (by unfold In64;decide) hx.lf)
 have HD:Hid (aA6 ps ls l x.ow x.ow 1099511627776 x.lf (agO l x.sl x.bu x.nu x.de)=if 0<mayS ps ls l x.ow x.ow 1099511627776 x.lf o.se then some (o.se,mayS ps ls l x.ow x.ow 1099511627776 x.lf o.se)else aA6 ps ls l x.ow x.ow 1099511627776 x.lf ((agO l x.sl x.bu x.nu x.de).drop (k+1))):=yH (by
  rw[hM.2,List.drop_eq_getElem_cons hk,hok];rfl)
 obtain⟨m,hm⟩:∃m,mayS ps ls l x.ow x.ow 1099511627776 x.lf o.se=m:=⟨_,rfl⟩;rw[hm]at CM HD;have HMM:=yH hM.1;obtain⟨v0,hv0⟩:=hM.1.nn;have KN:=yH hv0;have KB:=yH hb;have HBB:=yH hB;have d1:=hM.1.c.cell 1;have d4:=hM.1.c.cell 4;have dl:=hM.1.c.lt;have h0:=hM.1.h.cell 0;have h1:=hM.1.h.cell 1;have hl:=hM.1.h.lt;have o0:=hb.cell 0;have ol:=hb.lt;simp at d1 d4 h0 h1 o0;clear hk hok hmem hse hn2 hm hI hJ hx hM ho hb hv0 hB HMy
 gi_wp2_with fail
 refine⟨trivial,(fun hh=>(by cases hh)),(CallsIn.inRound lo (callsIn_wide.2 CM.out)).mono ?_⟩;rintro e W1 ⟨rfl,b1⟩;have H1:=yH (HMM.out.keep (pAD (S:=fun _=>False) b1) (fun j hj=>hj.elim));have KN1:=yB KN b1;have KB1:=yB KB b1;have O1:=yH (pAM (B:=B) (pAD (S:=fun _=>False) b1) (fun _ _ h=>h));clear b1 d1 d4 dl h0 h1 hl o0 ol CM HMM KN KB;have n0:=KN1.out.cell 0;have nl:=KN1.out.lt;have fz:=KN1.out.frozen 0;have KN2:=yH (KN1.out.set 0 (.int .i64 m));have KB2:=yH (KB1.out.setOther (a:=⟨w.heap.size+3,0,none⟩) (show ¬b=w.heap.size+3 from fun e=>by have h1:=KB1.out;have h2:=KN1.out;subst e;exact absurd rfl (aG4 h1 h2 (by decide))) (.int .i64 m));have H2:=yH (H1.out.setN m)
 have O2:Hid (aH0 B W (W1.setCell ⟨w.heap.size+3,0,none⟩ (.int .i64 m))):=yH ⟨by simpa using O1.out.size,fun j hj hs=>by
  rw[Below.heap_setCell _ _ _ _ (by show ¬j=w.heap.size+3;have:=HBB.out;omega)];exact O1.out.same j hj hs⟩
 simp at n0;clear H1 KB1 O1;have kb:=KB2.out.cell 0;have kbl:=KB2.out.lt;have s0:=H2.out.sq.cell 0;have sl:=H2.out.sq.lt;have sf:=H2.out.sq.frozen 0;have n2:=KN2.out.cell 0;have n2l:=KN2.out.lt;have n2f:=KN2.out.frozen 0;simp at kb s0 n2
 by_cases hq:0<m
 ·have q1:decide (m > 0)=true:=by simpa using hq
  have q2:decide (0<m)=true:=by simpa using hq
  rw[if_pos hq]at HD;clear hq
  gi_wp2_with fail
  generalize W1.setCell ⟨w.heap.size+3,0,none⟩ (.int .i64 m)=W2 at *;clear n0 nl fz q1 q2 KN1
  have END:Hid (aH0 B W ((W2.setCell ⟨w.heap.size+2,0,none⟩ (.int .u64 o.se)).setCell ⟨w.heap.size+3,0,none⟩ (.int .i64 m)).drew∧FsX w ps ls l x .ret ((W2.setCell ⟨w.heap.size+2,0,none⟩ (.int .u64 o.se)).setCell ⟨w.heap.size+3,0,none⟩ (.int .i64 m)).drew):=yH (by
   have k:Keep (fun j=>j=w.heap.size+2∨j=w.heap.size+3) W2 ((W2.setCell ⟨w.heap.size+2,0,none⟩ (.int .u64 o.se)).setCell ⟨w.heap.size+3,0,none⟩ (.int .i64 m)).drew:=
    ((Keep.setCell (S:=fun j=>j=w.heap.size+2∨j=w.heap.size+3) (Keep.refl _ _) (p:=⟨w.heap.size+2,0,none⟩) (.inl (.inl rfl)) _).setCell (p:=⟨w.heap.size+3,0,none⟩) (.inl (.inr rfl)) _).drew
   refine⟨⟨Nat.le_trans O2.out.size k.size,fun j hj hs=>?_⟩,rfl,o.se,m,H2.out.below.trans (k.below H2.out.below.size (fun j hj hs=>by omega)),?_,?_,HD.out⟩
   ·rw[k.block j (yM hs O2.out.size) (by have:=HBB.out;omega)];exact O2.out.same j hj hs
   ·exact(H2.out.sq.set 0 _).setOther (a:=⟨w.heap.size+3,0,none⟩) (show ¬w.heap.size+2=w.heap.size+3 by omega) _
   exact(KN2.out.setOther (a:=⟨w.heap.size+2,0,none⟩) (show ¬w.heap.size+3=w.heap.size+2 by omega) _).set 0 _)
  clear KN2 KB2 H2 O2
  gi_region
  all_goals
   gi_wp2_with fail
   exact END.out
 have q1:decide (m > 0)=false:=by simpa using hq
 have q2:decide (0<m)=false:=by simpa using hq
 rw[if_neg hq]at HD;clear hq
 gi_wp2_with fail
 exact⟨O2.out,k+1,rfl,H2.out,HD.out⟩
theorem cfirst_any(HMy:aD4){w:World}{G M gb base:Nat}{ps:List Int}{ls:List Ln}{l:List Of}{N:Int}{vb:Value}{x:Of}(hL:LedM w G M ps ls)(hI:LInv ps ls)(hP:PB w base gb l N vb)(hJ:BInv l N)(hx:x.Fits)(hm:mayB x.nu x.de=true):
  Calls Tryz.prog 103 #[.agg #[.int .u64 x.se,.int .u8 x.ow,.int .u8 x.sl,.int .u8 x.bu,.int .i64 x.lf,.int .i64 x.nu,.int .i64 x.de],.agg #[.pointer (some ⟨G,0,none⟩),.pointer (some ⟨gb,0,none⟩)]] w (yR w (.tuple #[.int .u64 ((aA6 ps ls l x.ow x.ow 1099511627776 x.lf (agO l x.sl x.bu x.nu x.de)).getD (0,0)).1,.int .i64 ((aA6 ps ls l x.ow x.ow 1099511627776 x.lf (agO l x.sl x.bu x.nu x.de)).getD (0,0)).2])):=by
 have LT:=And.intro hL.blk.lt (And.intro hL.map.lt (fun b (hb:Foot gb vb b)=>(hP.lt hb).2));have b1:=(Below.refl w.heap.size w).alloc yL (.cells #[.int .u64 x.se,.int .u8 x.ow,.int .u8 x.sl,.int .u8 x.bu,.int .i64 x.lf,.int .i64 x.nu,.int .i64 x.de] 100);have b2:=b1.alloc b1.size (.cells #[.pointer (some ⟨G,0,none⟩),.pointer (some ⟨gb,0,none⟩)] 31);have b3:=b2.alloc b2.size (.cells #[.int .u64 0] 39);have b4:=b3.alloc b3.size (.cells #[.int .i64 0] 2)
 have hM:FsM w G M gb base ps ls l N vb x (((((w.alloc (.cells #[.int .u64 x.se,.int .u8 x.ow,.int .u8 x.sl,.int .u8 x.bu,.int .i64 x.lf,.int .i64 x.nu,.int .i64 x.de] 100)).alloc (.cells #[.pointer (some ⟨G,0,none⟩),.pointer (some ⟨gb,0,none⟩)] 31)).alloc (.cells #[.int .u64 0] 39)).alloc (.cells #[.int .i64 0] 2)).alloc (.cells #[.int .u64 x.se,.int .u8 x.ow,.int .u8 x.sl,.int .u8 x.bu,.int .i64 x.lf,.int .i64 x.nu,.int .i64 x.de] 100) |>.alloc (.cells #[(.pointer (some ⟨gb,0,none⟩))] 29)):=by
  have c1:=(Below.refl ((((w.alloc (.cells #[.int .u64 x.se,.int .u8 x.ow,.int .u8 x.sl,.int .u8 x.bu,.int .i64 x.lf,.int .i64 x.nu,.int .i64 x.de] 100)).alloc (.cells #[.pointer (some ⟨G,0,none⟩),.pointer (some ⟨gb,0,none⟩)] 31)).alloc (.cells #[.int .u64 0] 39)).alloc (.cells #[.int .i64 0] 2)).heap.size ((((w.alloc (.cells #[.int .u64 x.se,.int .u8 x.ow,.int .u8 x.sl,.int .u8 x.bu,.int .i64 x.lf,.int .i64 x.nu,.int .i64 x.de] 100)).alloc (.cells #[.pointer (some ⟨G,0,none⟩),.pointer (some ⟨gb,0,none⟩)] 31)).alloc (.cells #[.int .u64 0] 39)).alloc (.cells #[.int .i64 0] 2))).alloc yL (.cells #[.int .u64 x.se,.int .u8 x.ow,.int .u8 x.sl,.int .u8 x.bu,.int .i64 x.lf,.int .i64 x.nu,.int .i64 x.de] 100);have c2:=c1.alloc c1.size (.cells #[(.pointer (some ⟨gb,0,none⟩))] 29);have b6:=b4.trans (c2.mono b4.size)
  exact⟨b6,(((pAA w #[.int .u64 x.se,.int .u8 x.ow,.int .u8 x.sl,.int .u8 x.bu,.int .i64 x.lf,.int .i64 x.nu,.int .i64 x.de] 100).alloc _).alloc _).alloc _ |>.below c2 (by simp;omega),((pAC (w.alloc (.cells #[.int .u64 x.se,.int .u8 x.ow,.int .u8 x.sl,.int .u8 x.bu,.int .i64 x.lf,.int .i64 x.nu,.int .i64 x.de] 100)) #[.pointer (some ⟨G,0,none⟩),.pointer (some ⟨gb,0,none⟩)] 31 (g:=w.heap.size+1) (by simp)).alloc _).alloc _ |>.below c2 (by simp),((pAC ((w.alloc (.cells #[.int .u64 x.se,.int .u8 x.ow,.int .u8 x.sl,.int .u8 x.bu,.int .i64 x.lf,.int .i64 x.nu,.int .i64 x.de] 100)).alloc (.cells #[.pointer (some ⟨G,0,none⟩),.pointer (some ⟨gb,0,none⟩)] 31)) #[.int .u64 0] 39 (g:=w.heap.size+2) (by simp)).alloc _).below c2 (by simp),
   ⟨0,(pAC (((w.alloc (.cells #[.int .u64 x.se,.int .u8 x.ow,.int .u8 x.sl,.int .u8 x.bu,.int .i64 x.lf,.int .i64 x.nu,.int .i64 x.de] 100)).alloc (.cells #[.pointer (some ⟨G,0,none⟩),.pointer (some ⟨gb,0,none⟩)] 31)).alloc (.cells #[.int .u64 0] 39)) #[.int .i64 0] 2 (g:=w.heap.size+3) (by simp)).below c2 (by simp)⟩,hL.below b6,hP.below b6,(pAC ((((w.alloc (.cells #[.int .u64 x.se,.int .u8 x.ow,.int .u8 x.sl,.int .u8 x.bu,.int .i64 x.lf,.int .i64 x.nu,.int .i64 x.de] 100)).alloc (.cells #[.pointer (some ⟨G,0,none⟩),.pointer (some ⟨gb,0,none⟩)] 31)).alloc (.cells #[.int .u64 0] 39)).alloc (.cells #[.int .i64 0] 2)) #[.int .u64 x.se,.int .u8 x.ow,.int .u8 x.sl,.int .u8 x.bu,.int .i64 x.lf,.int .i64 x.nu,.int .i64 x.de] 100 (g:=w.heap.size+4) (by simp)).alloc _,pAC _ _ _ (by simp),LT⟩
 have B4:=yH b4;have KC:=yH ((((pAA w #[.int .u64 x.se,.int .u8 x.ow,.int .u8 x.sl,.int .u8 x.bu,.int .i64 x.lf,.int .i64 x.nu,.int .i64 x.de] 100).alloc (.cells #[.pointer (some ⟨G,0,none⟩),.pointer (some ⟨gb,0,none⟩)] 31)).alloc (.cells #[.int .u64 0] 39)).alloc (.cells #[.int .i64 0] 2));have KH:=yH (((pAC (w.alloc (.cells #[.int .u64 x.se,.int .u8 x.ow,.int .u8 x.sl,.int .u8 x.bu,.int .i64 x.lf,.int .i64 x.nu,.int .i64 x.de] 100)) #[.pointer (some ⟨G,0,none⟩),.pointer (some ⟨gb,0,none⟩)] 31 (g:=w.heap.size+1) (by simp)).alloc (.cells #[.int .u64 0] 39)).alloc (.cells #[.int .i64 0] 2));have HSZ:Hid (((((w.alloc (.cells #[.int .u64 x.se,.int .u8 x.ow,.int .u8 x.sl,.int .u8 x.bu,.int .i64 x.lf,.int .i64 x.nu,.int .i64 x.de] 100)).alloc (.cells #[.pointer (some ⟨G,0,none⟩),.pointer (some ⟨gb,0,none⟩)] 31)).alloc (.cells #[.int .u64 0] 39)).alloc (.cells #[.int .i64 0] 2)).heap.size=w.heap.size+4):=yH (by simp);have HM:=yH hM;have II:=yH hI;have JJ:=yH hJ;have HX:=yH hx;have HMB:=yH hm;obtain⟨R,hR⟩:∃R,(aA6 ps ls l x.ow x.ow 1099511627776 x.lf (agO l x.sl x.bu x.nu x.de)).getD (0,0)=R:=⟨_,rfl⟩;have HR:=yH hR;rw[hR];clear LT b1 b2 b3 b4 hM hL hI hP hJ hx hm hR;generalize hW:((((w.alloc (.cells #[.int .u64 x.se,.int .u8 x.ow,.int .u8 x.sl,.int .u8 x.bu,.int .i64 x.lf,.int .i64 x.nu,.int .i64 x.de] 100)).alloc (.cells #[.pointer (some ⟨G,0,none⟩),.pointer (some ⟨gb,0,none⟩)] 31)).alloc (.cells #[.int .u64 0] 39)).alloc (.cells #[.int .i64 0] 2))=W at *;have HW:=yH hW;clear hW;have d0:=KC.out.cell 0;have d1:=KC.out.cell 1;have d2:=KC.out.cell 2;have d3:=KC.out.cell 3;have d4:=KC.out.cell 4;have d5:=KC.out.cell 5;have d6:=KC.out.cell 6;have dl:=KC.out.lt;have h0:=KH.out.cell 0;have h1:=KH.out.cell 1;have hl:=KH.out.lt;simp at d0 d1 d2 d3 d4 d5 d6 h0 h1;refine(callsIn_wide (n:=0)).1 ?_;refine callsIn_of_wp_marks Tryz.func103 rfl trivial ?_ rfl;refine wpIn_wide.2 ?_;simp only[Tryz.ntmps103,List.size_toArray,List.length_cons,List.length_nil,Nat.reduceAdd,Nat.reduceSub,Array.replicate_succ,Array.replicate_zero,List.push_toArray,List.append_toArray,List.nil_append,List.cons_append]
 go_upto_region 1 with fail
 rw[HW.out];go_wp2_with fail;refine(aOv x _ _).mono ?_;rintro e w6 ⟨rfl,rfl⟩;rw[HSZ.out];clear d0 d1 d2 d3 d4 d5 d6 dl h0 h1 hl KC KH;have X6:Hid (((W.alloc (.cells #[.int .u64 x.se,.int .u8 x.ow,.int .u8 x.sl,.int .u8 x.bu,.int .i64 x.lf,.int .i64 x.nu,.int .i64 x.de] 100)).alloc (.cells #[(.pointer (some ⟨gb,0,none⟩))] 29)).heap.size=w.heap.size+6):=yH (by have:=HSZ.out;simp;omega);go_wp2_with fail;generalize hX:(W.alloc (.cells #[.int .u64 x.se,.int .u8 x.ow,.int .u8 x.sl,.int .u8 x.bu,.int .i64 x.lf,.int .i64 x.nu,.int .i64 x.de] 100)).alloc (.cells #[(.pointer (some ⟨gb,0,none⟩))] 29)=X at *;have HXX:=yH hX;clear hX
 refine wp_roundsK (gf:=189) (lb:=#[(.pointer (some ⟨w.heap.size+4,0,none⟩)),(.pointer (some ⟨w.heap.size+5,0,none⟩))]) rfl (enters_of Tryz.func189 (by kernel_rfl) rfl)
  (FsI w G M gb base ps ls l N vb x) (fun k vs _=>∃o:Of,(agO l x.sl x.bu x.nu x.de)[k]? = some o∧vs=#[.agg #[.int .u64 o.se,.int .u8 o.ow,.int .u8 o.sl,.int .u8 o.bu,.int .i64 o.lf,.int .i64 o.nu,.int .i64 o.de]]) (FsX w ps ls l x) (fun k=>(agO l x.sl x.bu x.nu x.de).length≤k) (fun k k'=>k'=k+1)
  (fun k vs a' W'=>∃(o:Of) (b:Nat),(agO l x.sl x.bu x.nu x.de)[k]? = some o∧Blk W' b #[.int .u64 o.se,.int .u8 o.ow,.int .u8 o.sl,.int .u8 o.bu,.int .i64 o.lf,.int .i64 o.nu,.int .i64 o.de] 48∧a'=⟨#[.agg #[.int .u64 x.se,.int .u8 x.ow,.int .u8 x.sl,.int .u8 x.bu,.int .i64 x.lf,.int .i64 x.nu,.int .i64 x.de],.agg #[.pointer (some ⟨G,0,none⟩),.pointer (some ⟨gb,0,none⟩)],(.pointer (some ⟨w.heap.size,0,none⟩)),(.pointer (some ⟨w.heap.size+1,0,none⟩)),(.pointer (some ⟨w.heap.size+2,0,none⟩)),(.pointer (some ⟨w.heap.size+3,0,none⟩)),(.pointer (some ⟨b,0,none⟩)),.agg #[.int .u64 x.se,.int .u8 x.ow,.int .u8 x.sl,.int .u8 x.bu,.int .i64 x.lf,.int .i64 x.nu,.int .i64 x.de],(.pointer (some ⟨w.heap.size+1,1,none⟩)),(.pointer (some ⟨gb,0,none⟩)),.func (.func 189) #[] #[(.pointer (some ⟨w.heap.size+4,0,none⟩)),(.pointer (some ⟨w.heap.size+5,0,none⟩))],.agg #[.int .u64 o.se,.int .u8 o.ow,.int .u8 o.sl,.int .u8 o.bu,.int .i64 o.lf,.int .i64 o.nu,.int .i64 o.de],undef,undef,undef,undef,undef,undef,undef,undef,undef,undef,undef,undef,undef,undef,undef],[]⟩)
  (fun k=>fits_FsI (by rw[X6.out];omega) k) (fun c=>fits_FsX (by rw[X6.out];omega) c)
  (fun k vs a=>⟨fun W1 W2 ⟨o,b,h1,h2,h3⟩ q=>⟨o,b,h1,h2.below q h2.lt,h3⟩,fun W1 lo ob ob' ⟨o,b,h1,h2,h3⟩ _ hg ho=>⟨o,b,h1,h2.turn hg ho ob',h3⟩⟩)
  (fun k vs W' ⟨o,_,h⟩=>by rw[h];rfl) 0
  (aOw x HX.out HMB.out JJ.out (fun k W' h=>⟨h.1.book,h.1.c4,h.1.c5⟩)) ⟨HM.out,by rw[List.drop_zero]⟩ ?assign ?body ?done ?stop
 case assign=>
  rintro m lo k vs W' K _ ⟨o,ho,rfl⟩ hK
  gi_wp2_with fail
  exact hK _ _ (yZ.alloc yL _) ⟨o,_,ho,pAA _ _ _,rfl⟩
 case body=>
  rintro m0 lo k vs a' W' hW' hM ⟨o,b,ho,hb,rfl⟩;exact fs_body HMy II.out JJ.out HX.out hM ho hb (by rw[X6.out];omega)
 case done=>
  intro D k W' hD hS hM hK;obtain rfl:(0,0)=R:=by rw[←HR.out,hM.2,List.drop_eq_nil_of_le hS];rfl
  obtain⟨v,hv⟩:=hM.1.nn;have s0:=hM.1.sq.cell 0;have sl:=hM.1.sq.lt;have sf:=hM.1.sq.frozen 0;have n0:=hv.cell 0;have nl:=hv.lt;have nf:=hv.frozen 0;simp at s0 n0;have DD:=yH (show w.heap.size+6≤D by have:=X6.out;omega);have HMM:=yH hM.1;have KN:=yH hv;have DK:=yH hK;clear hD hS hM hK hv;go_wp2_with fail;obtain⟨W9,h9⟩:∃W9,W9=(W'.setCell ⟨w.heap.size+2,0,none⟩ (.int .u64 0)).setCell ⟨w.heap.size+3,0,none⟩ (.int .i64 0):=⟨_,rfl⟩
  have k:Keep (fun j=>j=w.heap.size+2∨j=w.heap.size+3) W' W9:=by
   rw[h9];exact(Keep.setCell (S:=fun j=>j=w.heap.size+2∨j=w.heap.size+3) (Keep.refl _ _) (p:=⟨w.heap.size+2,0,none⟩) (.inl (.inl rfl)) _).setCell (p:=⟨w.heap.size+3,0,none⟩) (.inl (.inr rfl)) _
  have e1:W9.heap[D]? = some (.deferred (some [])):=(k.block D (Array.getElem?_eq_some_iff.1 DK.out).1 (by have:=DD.out;omega)).trans DK.out
  have e2:(W9.putObj D (.deferred none)).cell? ⟨w.heap.size+2,0,none⟩=some (.int .u64 0):=by
   rw[World.cell?_of_block (w:=W9) (World.putObj_heap_other (by show ¬w.heap.size+2=D;have:=DD.out;omega)),h9];have:=((HMM.out.sq.set 0 (.int .u64 0)).setOther (a:=⟨w.heap.size+3,0,none⟩) (show ¬w.heap.size+2=w.heap.size+3 by omega) (.int .i64 0)).cell 0;simpa using this
  have e3:(W9.putObj D (.deferred none)).cell? ⟨w.heap.size+3,0,none⟩=some (.int .i64 0):=by
   rw[World.cell?_of_block (w:=W9) (World.putObj_heap_other (by show ¬w.heap.size+3=D;have:=DD.out;omega)),h9];have:=((KN.out.setOther (a:=⟨w.heap.size+2,0,none⟩) (show ¬w.heap.size+3=w.heap.size+2 by omega) (.int .u64 0)).set 0 (.int .i64 0)).cell 0;simpa using this
  have e4:Below w.heap.size w (W9.putObj D (.deferred none)):=(HMM.out.below.trans (k.below HMM.out.below.size (fun j hj hs=>by omega))).trans (aEa _ _ (by have:=DD.out;omega));rw[←h9];refine⟨by simp,.inl ⟨_,_,rfl,run_takeDeferred e1,?_⟩⟩;exact⟨_,by simp[results,Tryz.results103,go_sem,e2,e3],rfl,e4⟩
 rintro D c W' hD ⟨rfl,s,n,hB,hs,hn,hf⟩ hK;obtain rfl:(s,n)=R:=by rw[←HR.out,hf];rfl
 have DD:=yH (show w.heap.size+6≤D by have:=X6.out;omega);have DK:=yH hK;have HB:=yH hB;have KS:=yH hs;have KN:=yH hn;clear hD hK hB hs hn hf;go_wp2_with fail
 have e2:(W'.putObj D (.deferred none)).cell? ⟨w.heap.size+2,0,none⟩=some (.int .u64 s):=by
  rw[World.cell?_of_block (w:=W') (World.putObj_heap_other (by show ¬w.heap.size+2=D;have:=DD.out;omega))];have:=KS.out.cell 0;simpa using this
 have e3:(W'.putObj D (.deferred none)).cell? ⟨w.heap.size+3,0,none⟩=some (.int .i64 n):=by
  rw[World.cell?_of_block (w:=W') (World.putObj_heap_other (by show ¬w.heap.size+3=D;have:=DD.out;omega))];have:=KN.out.cell 0;simpa using this
 have e4:Below w.heap.size w (W'.putObj D (.deferred none)):=HB.out.trans (aEa _ _ (by have:=DD.out;omega));refine⟨by simp,.inl ⟨_,_,rfl,run_takeDeferred DK.out,?_⟩⟩;exact⟨_,by simp[results,Tryz.results103,go_sem,e2,e3],rfl,e4⟩
end Go.Proofs.YtaeocliklpcgmaaGreat
namespace Go.Proofs.YtaeocliklpcgmaaGreat
open Go.RowKit
theorem aEh{P:Program}(w:World){ops:Array Oper}{rest:List Oper}{o:Oper}{a:Act}{Q:Exit→Act→World→Prop}(hgd:o.guard=none)(s x:Operand)(t e:TypeId)
  (ho:o.op=.call { callee:=.builtin .append,args:=#[s,x],argTypes:=#[t,t] }){z:Value}{sz by':Nat}(ht:P.underlying t=some (.slice e))(hinf:(P.info? e).map (fun i=>(i.zero,i.size,i.bytes))=some (some z,sz,by'))(hzs:z.cells.size=sz)(h0:0<sz)(hby:by'≤1000)
  (base:Nat)(v:Value)(n:Nat)(xs:List Value)(hs:a.eval s=v)(hown:w.ownsRow base e sz v n xs)(g c:Nat)(vs:List Value)(hvs:vs.length=sz)(hx:a.eval x=.slice (some ⟨g,0,none⟩) 1 c)(hy:Blk w g vs.toArray e)(h1:∀u∈vs,u.oneCell'=true)(hlen:n≤100000)(hbase:base≤w.heap.size)
  (h:∀v' w',w'.ownsRow base e sz v' (n+1) (xs++vs)→w.grownBy w' v.ownBlock→wpList P ops Q rest (a.put o.dst v') w'):wpList P ops Q (o::rest) a w:=by
 obtain⟨i0,hi,hz0,hz1,hz2⟩:=info_parts hinf;refine wpList_append_own w hgd s x t ho base e i0 z sz by' ht hi hz0 hz1 hz2 hzs h0 v n xs hs hown ⟨g,0,none⟩ 1 c vs hx (by rw[hvs];omega) ?_ h1 (by unfold maxLen;omega) ?_ hbase ?_
 ·intro j u hj;rw[Go.WideShapes.add_plain,Nat.zero_add,hy.cell j];simpa using hj
 ·refine Nat.le_trans (Nat.mul_le_mul_left _ hby) ?_;omega
 intro v' w' h2 h3 _;exact h v' w' h2 h3
theorem below_ag{B:Nat}{w w1 w2:World}{o:Obj}{row:Option Nat}(h:Below B w w1)(hB:B≤w1.heap.size)(hg:(w1.alloc o).grownBy w2 row)(hr:∀k,row=some k→B≤k):Below B w w2:=
 (h.alloc hB o).grown hg (by simp;omega) hr
def signed(neg:Bool)(x:Nat):Int:=if neg then -(x:Int)else x
def Lst(k:IntKind)(w:World)(a:Option Addr)(cap:Nat)(zs:List Int):Prop:=
 (zs=[]∧(a=none→cap=0))∨∃b off,a=some ⟨b,off,none⟩∧zs≠[]∧b<w.heap.size∧∀i (h:i<zs.length),w.cell? ⟨b,off+i,none⟩=some (.int k zs[i])
def Fl.vals(tk pt:Int)(f:Fl):List Value:=[.int .u64 f.se,.int .u8 tk,.int .u8 pt,.int .i64 f.got,.int .i64 f.gi]
def aC9(tk pt:Int)(fs:List Fl):List Value:=fs.flatMap (Fl.vals tk pt)
theorem aOx(tk pt:Int)(fs:List Fl):(aC9 tk pt fs).length=fs.length*5:=aH5 _ 5 (fun _=>rfl) fs
theorem aOy(tk pt:Int)(fs:List Fl)(i j:Nat)(hj:j<5)(h:i<fs.length):(aC9 tk pt fs)[i*5+j]? = (fs[i].vals tk pt)[j]? := by
 unfold aC9;rw[aGo _ 5 (fun _=>rfl) fs i j hj,List.getElem?_eq_getElem h];rfl
theorem aM8(tk pt:Int)(fs:List Fl)(f:Fl):aC9 tk pt (fs++[f])=aC9 tk pt fs++f.vals tk pt:=by
 unfold aC9;rw[List.flatMap_append];simp
theorem info_i64:(Tryz.prog.info? 2).map (fun i=>(i.zero,i.size,i.bytes))=some (some (.int .i64 0),1,8):=by kernel_rfl
theorem own_lst{w:World}{base n cap:Nat}{ao:Option Addr}{e:TypeId}{zs:List Int}(h:w.ownsRow base e 1 (.slice ao n cap) n (zs.map (.int .i64)))(hn:n=zs.length):Lst .i64 w ao cap zs:=by
 obtain⟨hl,h2⟩:=h;rcases h2 with⟨h2,h3⟩|⟨g,cap',cur,hv,hge,hg,hnc,hcm,hsz,htk⟩
 ·cases h2
  refine .inl ⟨List.eq_nil_of_length_eq_zero (by omega),fun _=>rfl⟩
 cases hv
 have hB:Blk w g cur e:=hg
 by_cases hz:zs=[]
 ·exact .inl ⟨hz,fun h=>by cases h⟩
 refine .inr ⟨g,0,rfl,hz,hB.lt,fun i hi=>?_⟩;rw[Nat.zero_add,hB.cell];have e:(zs.map (Value.int .i64))[i]? = some (.int .i64 zs[i]):=by rw[List.getElem?_map,List.getElem?_eq_getElem hi];rfl
 rw[←htk,List.getElem?_take_of_lt (by omega),Array.getElem?_toList]at e;exact e
theorem clipFl_any{w:World}{base:Nat}{v:Value}{n:Nat}{xs:List Value}(h:w.ownsRow base 73 5 v n xs):
  Calls Tryz.prog 104 #[v] w (aGq w base 73 5 n v xs):=by
 rcases h.2 with⟨rfl,h0⟩|⟨g,cap,cur,rfl,hbase,hb,h1,h2,h3,h4⟩
 ·subst h0;have hr:=aBa (P:=Tryz.prog) w 38 73 5 Tryz.underlying38 (Tryz.sizeOf73 w);have hx:=h.1;have hx2:=yH hx;clear h hx;go_enter Tryz.func104,Tryz.ntmps104;go_wp2;refine bodyPost_ret (v:=.slice none 0 0) (by simp[results,Tryz.results104,go_sem]) rfl ?_;exact⟨_,rfl,⟨hx2.out,.inl ⟨rfl,rfl⟩⟩,rfl,rfl⟩
 have hr:=aB5 (P:=Tryz.prog) w 38 73 5 Tryz.underlying38 (Tryz.sizeOf73 w) g n cap h1;have HR:=yH (show aBb w base 73 5 (.slice (some ⟨g,0,none⟩) n n) n xs from⟨h.1,.inr ⟨g,cur,rfl,hbase,hb,by omega,by omega,h4⟩⟩);clear h hb h4 h3;unfold maxLen at h2;go_enter Tryz.func104,Tryz.ntmps104;go_wp2;refine bodyPost_ret (v:=.slice (some ⟨g,0,none⟩) n n) (by simp[results,Tryz.results104,go_sem]) rfl ?_;exact⟨_,rfl,HR.out,rfl,rfl⟩
def SumNil(w:World)(i:Value)(wr:World):Prop:=i=.int .i64 0∧Below w.heap.size w wr∧Blk wr w.heap.size #[.int .u64 0,.int .u64 0] 185
theorem psum_nil(a:Option Addr)(cap:Nat)(w:World):Calls Tryz.prog 71 #[.slice a 0 cap] w (yR w (ans 0)):=by
 go_enter Tryz.func71,Tryz.ntmps71;go_wp2
 go_loopw [9] (SumNil w) (fun _ _=>0)
 case atStart=>exact⟨rfl,yZ.alloc yL _,pAA _ _ _⟩
 obtain⟨rfl,hb,hblk⟩:=hrel;have hg:=hblk.lt;have hc0:wr.cell? ⟨w.heap.size,0,none⟩=some (.int .u64 0):=hblk.cell 0;have hc1:wr.cell? ⟨w.heap.size,1,none⟩=some (.int .u64 0):=hblk.cell 1;have hn:=aFw 0 wr (by omega) (by omega);simp only[aBs,show hi64 0=0 by decide,show lo64 0=0 by decide]at hn;go_wp2_with fail;refine hn.mono ?_;rintro e w4 ⟨rfl,b4⟩;unfold ans;go_wp2;go_ret2;exact⟨rfl,hb.trans (b4.mono (Nat.le_of_lt hg))⟩
theorem psum_lst(a:Option Addr)(cap:Nat)(zs:List Int)(w:World)(hz:∀z∈zs,In64 z)(hl:zs.length≤140737488355328)(ha:Lst .i64 w a cap zs):
  Calls Tryz.prog 71 #[.slice a zs.length cap] w (yR w (ans zs.sum)):=by
 rcases ha with⟨rfl,_⟩|⟨b,off,rfl,_,hlt,hc⟩
 ·exact psum_nil a cap w
 exact sum_any b off cap zs w hz hl hlt hc
def FillsIn(w:World)(ao:Option Addr)(tk pt:Int)(fs:List Fl):Prop:=
 ∀k (h:k<fs.length),∃b,ao=some ⟨b,0,none⟩∧∀w',Below w.heap.size w w'→b<w'.heap.size∧∀j,j<5→w'.cell? ⟨b,k*5+j,none⟩=(fs[k].vals tk pt)[j]?
def PGvAt(W:World)(fs:List Fl)(v i:Value)(wr:World):Prop:=
 ∃k:Nat,k≤fs.length∧i=.int .i64 k∧wr.ownsRow W.heap.size 2 1 v k (((fs.take k).map Fl.gi).map (.int .i64))∧Below W.heap.size W wr
theorem pgiven_in{w:World}{ao:Option Addr}{cap:Nat}{tk pt:Int}{fs:List Fl}(hv:FillsIn w ao tk pt fs)(h64:∀f∈fs,In64 f.gi)(hlen:fs.length≤1000)(hc1:fs.length≤cap)(hc2:cap≤maxLen):
  Calls Tryz.prog 26 #[.slice ao fs.length cap] w (yR w (.int .i64 (okN (fs.map Fl.gi).sum))):=by
 have HV:=yH hv;have H64:=yH h64;unfold maxLen at hc2;clear hv h64;go_enter Tryz.func26,Tryz.ntmps26;go_wp2_with fail
 go_loopw [3,5,10] (fun v _ i wr=>PGvAt w fs v i wr) (fun _ _ i _=>fs.length - (intOf i).toNat)
 case atStart=>exact⟨0,by omega,rfl,World.ownsRow_nil w _ _ _,yZ⟩
 obtain⟨k,hk,rfl,ho,hb⟩:=hrel
 by_cases hkl:k<fs.length
 ·have hki:(k:Int)<(fs.length:Int):=by omega
  have hk0:(0:Int)≤(k:Int):=by omega
  have q0:decide ((k:Int)<(fs.length:Int))=true:=by simpa using hkl
  obtain⟨b,hbb,hc⟩:=HV.out k hkl;subst hbb;obtain⟨hbl,hcj⟩:=hc wr hb;have c0:=hcj 0 (by omega);have c1:=hcj 1 (by omega);have c2:=hcj 2 (by omega);have c3:=hcj 3 (by omega);have c4:=hcj 4 (by omega)
  have HT:Hid (((fs.take (k+1)).map Fl.gi).map (Value.int .i64)=((fs.take k).map Fl.gi).map (.int .i64)++[.int .i64 fs[k].gi]):=yH (by
   rw[List.take_succ_eq_append_getElem hkl,List.map_append,List.map_append];rfl)
  simp only[Fl.vals,List.getElem?_cons_zero,List.getElem?_cons_succ]at c0 c1 c2 c3 c4;have OO:=yH ho;have BB:=yH hb;have HK:=yH hkl;clear ho hb hc hcj;generalize fs[k]=f at *;obtain⟨se,got,x⟩:=f;dsimp only at c0 c1 c2 c3 c4 HT;clear hkl;rw[Nat.add_zero]at c0;go_wp2_with (at_builtin;refine aEh _ rfl (.tmp 14) (.tmp 17) 134 2 rfl Tryz.underlying134 info_i64 rfl (by decide) (by decide) w.heap.size _ k _ rfl ((OO.out.alloc _).alloc _) (wr.heap.size+1) 1 [.int .i64 x] rfl rfl (pAC _ _ _ (by simp)) (by simp[Value.oneCell']) (by omega) (by have:=BB.out.size;simp;omega) ?_);intro v2 w2 ho2 hg2;have HO2:=yH (show w2.ownsRow w.heap.size 2 1 v2 (k+1) (((fs.take (k+1)).map Fl.gi).map (.int .i64))from by rw[HT.out];simpa [List.map_take]using ho2);have BB2:=yH (below_ag (BB.out.alloc BB.out.size _) (by have:=BB.out.size;simp;omega) hg2 (fun b hb=>(aAi OO.out hb).1));clear ho2 hg2;go_wp2_with fail;exact⟨⟨k+1,by have:=HK.out;omega,by go_num,HO2.out,BB2.out⟩,by simp[intOf];have:=HK.out;omega⟩
 have hkn:k=fs.length:=by omega
 subst hkn;have q0:decide (((fs.length:Nat):Int)<(fs.length:Int))=false:=by simp
 rw[List.take_length]at ho;obtain⟨a2,cap2,rfl,d1,d2,_,_⟩:=aAf ho;have CS:=yH (psum_lst a2 cap2 (fs.map Fl.gi) wr (by intro z hz;obtain⟨f,hf,rfl⟩:=List.mem_map.1 hz;exact H64.out f hf) (by simp;omega) (own_lst ho (by simp)));rw[List.length_map]at CS;unfold ans at CS;have BB:=yH hb;clear hb ho;go_wp2_with fail;refine CS.out.mono ?_;rintro e w2 ⟨rfl,b2⟩;have B2:=yT BB b2;clear b2;go_wp2_with fail;go_ret;exact⟨rfl,B2.out⟩
theorem aJq{w:World}{base:Nat}{ao:Option Addr}{n cap:Nat}{e:TypeId}{tk pt:Int}{fs:List Fl}(h:aBb w base e 5 (.slice ao n cap) n (aC9 tk pt fs)):FillsIn w ao tk pt fs:=by
 intro k hk;have hz:=aOx tk pt fs;obtain⟨ao',cap',hv,_,_,hl,h4⟩:=h.look
 cases hv
 obtain⟨b,rfl,_,hb,hc,_⟩:=h4 (by omega);refine⟨b,rfl,fun w' q=>⟨yM hb q.size,fun j hj=>?_⟩⟩;rw[q.cell (p:=⟨b,k*5+j,none⟩) hb,hc _ (by omega),aOy tk pt fs k j hj hk]
end Go.Proofs.YtaeocliklpcgmaaGreat
