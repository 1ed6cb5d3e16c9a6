/- Pieces of one proof. -/
import Derived.Test.YtngnfdnfpiiclaaGreatB13
set_option linter.all false
set_option maxHeartbeats 64000000
set_option maxRecDepth 100000
namespace Go.Proofs.YtngnfdnfpiiclaaGreat
open Go.RowKit
attribute [local go_sem] Oper.semAt_some
structure FsM(w:World)(G M gb base:Nat)(ps:List Int)(ls:List Ln)(l:List Of)(N:Int)(vb:Value)(x:Of)(W:World):Prop where
 below:Below w.heap.size w W
 c:Blk W w.heap.size #[.int .u64 x.se,.int .u8 x.ow,.int .u8 x.sl,.int .u8 x.bu,.int .i64 x.lf,.int .i64 x.nu,.int .i64 x.de] 294
 h:Blk W (w.heap.size+1) #[.pointer (some ⟨G,0,none⟩),.pointer (some ⟨gb,0,none⟩)] 80
 sq:Blk W (w.heap.size+2) #[.int .u64 0] 44
 nn:∃v:Int,Blk W (w.heap.size+3) #[.int .i64 v] 2
 led:LedM W G M ps ls
 book:PB W base gb l N vb
 c4:Blk W (w.heap.size+4) #[.int .u64 x.se,.int .u8 x.ow,.int .u8 x.sl,.int .u8 x.bu,.int .i64 x.lf,.int .i64 x.nu,.int .i64 x.de] 294
 c5:Blk W (w.heap.size+5) #[(.pointer (some ⟨gb,0,none⟩))] 78
 lt:G<w.heap.size∧M<w.heap.size∧∀b,Foot gb vb b→b<w.heap.size
theorem FsM.keep{S:Nat→Prop}{w:World}{G M gb base:Nat}{ps:List Int}{ls:List Ln}{l:List Of}{N:Int}{vb:Value}{x:Of}{W W':World}(h:FsM w G M gb base ps ls l N vb x W)(k:Keep S W W')(hS:∀j,S j→w.heap.size+6≤j):FsM w G M gb base ps ls l N vb x W':=by
 have q:∀j,j<w.heap.size+6→¬S j:=fun j hj hs=>by have:=hS j hs;omega
 obtain⟨v,hv⟩:=h.nn;obtain⟨l1,l2,l3⟩:=h.lt
 exact⟨h.below.trans (k.below h.below.size (fun j hj hs=>q j (by omega) hs)),h.c.keep k (q _ (by omega)),h.h.keep k (q _ (by omega)),h.sq.keep k (q _ (by omega)),⟨v,hv.keep k (q _ (by omega))⟩,
  h.led.keep k (q _ (by omega)) (q _ (by omega)),h.book.keep k (q _ (by have:=l3 gb (.inl rfl);omega)) (fun b hb hs=>q b (by have:=l3 b (.inr hb);omega) hs),h.c4.keep k (q _ (by omega)),h.c5.keep k (q _ (by omega)),h.lt⟩
theorem FsM.setN{w:World}{G M gb base:Nat}{ps:List Int}{ls:List Ln}{l:List Of}{N:Int}{vb:Value}{x:Of}{W:World}(h:FsM w G M gb base ps ls l N vb x W)(v:Int):FsM w G M gb base ps ls l N vb x (W.setCell ⟨w.heap.size+3,0,none⟩ (.int .i64 v)):=by
 have k:Keep (fun j=>j=w.heap.size+3) W (W.setCell ⟨w.heap.size+3,0,none⟩ (.int .i64 v)):=Keep.setCell (S:=fun j=>j=w.heap.size+3) (Keep.refl _ _) (p:=⟨w.heap.size+3,0,none⟩) (.inl rfl) _;obtain⟨u,hu⟩:=h.nn;obtain⟨l1,l2,l3⟩:=h.lt
 exact⟨h.below.trans (k.below h.below.size (fun j hj hs=>by omega)),h.c.keep k (by omega),h.h.keep k (by omega),h.sq.keep k (by omega),⟨v,hu.set 0 _⟩,
  h.led.keep k (by omega) (by omega),h.book.keep k (by have:=l3 gb (.inl rfl);omega) (fun b hb hs=>by have:=l3 b (.inr hb);omega),h.c4.keep k (by omega),h.c5.keep k (by omega),h.lt⟩
def FsI(w:World)(G M gb base:Nat)(ps:List Int)(ls:List Ln)(l:List Of)(N:Int)(vb:Value)(x:Of)(k:Nat)(W:World):Prop:=
 FsM w G M gb base ps ls l N vb x W∧aAx ps ls l x.ow x.ow 1099511627776 x.lf (agO l x.sl x.bu x.nu x.de)=aAx ps ls l x.ow x.ow 1099511627776 x.lf ((agO l x.sl x.bu x.nu x.de).drop k)
def FsX(w:World)(ps:List Int)(ls:List Ln)(l:List Of)(x:Of)(c:Code)(W:World):Prop:=
 c=.ret∧∃s n:Int,Below w.heap.size w W∧Blk W (w.heap.size+2) #[.int .u64 s] 44∧Blk W (w.heap.size+3) #[.int .i64 n] 2∧aAx ps ls l x.ow x.ow 1099511627776 x.lf (agO l x.sl x.bu x.nu x.de)=some (s,n)
theorem fits_FsI{w:World}{G M gb base:Nat}{ps:List Int}{ls:List Ln}{l:List Of}{N:Int}{vb:Value}{x:Of}{B:Nat}(hB:w.heap.size+6≤B)(k:Nat):Fits B (FsI w G M gb base ps ls l N vb x k):=
 ⟨fun W W' h q=>⟨h.1.keep (pAD (S:=fun _=>False) q) (fun j hj=>hj.elim),h.2⟩,fun W lo o o' h hl hg ho=>⟨h.1.keep (aMa W o') (fun j hj=>by omega),h.2⟩⟩
theorem fits_FsX{w:World}{ps:List Int}{ls:List Ln}{l:List Of}{x:Of}{B:Nat}(hB:w.heap.size+6≤B)(c:Code):Fits B (FsX w ps ls l x c):=
 ⟨fun W W' ⟨h1,s,n,h2,h3,h4,h5⟩ q=>⟨h1,s,n,h2.trans (q.mono h2.size),h3.below q h3.lt,h4.below q h4.lt,h5⟩,
  fun W lo o o' ⟨h1,s,n,h2,h3,h4,h5⟩ hl hg ho=>⟨h1,s,n,h2.trans (aFp W o' (by omega)),h3.turn hg ho o',h4.turn hg ho o',h5⟩⟩
theorem fs_body(HMy:aCh){w:World}{G M gb base:Nat}{ps:List Int}{ls:List Ln}{l:List Of}{N:Int}{vb:Value}{x:Of}{W:World}{b B m0 lo k:Nat}{o:Of}{c0 c1 c7 c8 c9 c10 c11 c12 c13 c14 c15 c16 c17 c18 c19 c20 c21 c22 c23 c24 c25 c26:Value}
  (hI:LInv ps ls)(hJ:BInv l N)(hx:x.Fits)(hM:FsI w G M gb base ps ls l N vb x k W)(ho:(agO l x.sl x.bu x.nu x.de)[k]? = some o)(hb:Blk W b #[.int .u64 o.se,.int .u8 o.ow,.int .u8 o.sl,.int .u8 o.bu,.int .i64 o.lf,.int .i64 o.nu,.int .i64 o.de] 75)(hB:w.heap.size+6≤B):
  Code.wpIn (Fence.wide.inRound lo) m0 Tryz.prog (((Tryz.f242.body).bind aDm).getD .skip) (aRj B (FsI w G M gb base ps ls l N vb x) (FsX w ps ls l x) (fun k k'=>k'=k+1) k W) ⟨#[c0,c1,(.pointer (some ⟨w.heap.size,0,none⟩)),(.pointer (some ⟨w.heap.size+1,0,none⟩)),(.pointer (some ⟨w.heap.size+2,0,none⟩)),(.pointer (some ⟨w.heap.size+3,0,none⟩)),(.pointer (some ⟨b,0,none⟩)),c7,c8,c9,c10,c11,c12,c13,c14,c15,c16,c17,c18,c19,c20,c21,c22,c23,c24,c25,c26],[]⟩ W:=by
 conv=>arg 4;whnf
 have hk:=(List.getElem?_eq_some_iff.1 ho).1;have hok:(agO l x.sl x.bu x.nu x.de)[k]=o:=(List.getElem?_eq_some_iff.1 ho).2;have hmem:o∈agO l x.sl x.bu x.nu x.de:=by rw[←hok];exact List.getElem_mem hk
 have hse:=hJ.bd o (mem_ag hJ hmem).1;have hn2:=hJ.n2;have CM:=yH (aRd HMy hM.1.led hI hM.1.book hJ o.se x.ow x.ow 1099511627776 x.lf (by omega) hx.ow hx.ow (by unfold In64;decide) hx.lf)
 have HD:Hid (aAx ps ls l x.ow x.ow 1099511627776 x.lf (agO l x.sl x.bu x.nu x.de)=if 0<mayS ps ls l x.ow x.ow 1099511627776 x.lf o.se then some (o.se,mayS ps ls l x.ow x.ow 1099511627776 x.lf o.se)else aAx ps ls l x.ow x.ow 1099511627776 x.lf ((agO l x.sl x.bu x.nu x.de).drop (k+1))):=yH (by
  rw[hM.2,List.drop_eq_getElem_cons hk,hok];rfl)
 obtain⟨m,hm⟩:∃m,mayS ps ls l x.ow x.ow 1099511627776 x.lf o.se=m:=⟨_,rfl⟩;rw[hm]at CM HD;have HMM:=yH hM.1;obtain⟨v0,hv0⟩:=hM.1.nn;have KN:=yH hv0;have KB:=yH hb;have HBB:=yH hB;have d1:=hM.1.c.cell 1;have d4:=hM.1.c.cell 4;have h0:=hM.1.h.cell 0;have h1:=hM.1.h.cell 1;have o0:=hb.cell 0;simp at d1 d4 h0 h1 o0;clear hk hok hmem hse hn2 hm hI hJ hx hM ho hb hv0 hB HMy
 gi_wp2_with fail
 refine⟨trivial,(fun hh=>(by cases hh)),(CallsIn.inRound lo (callsIn_wide.2 CM.out)).mono ?_⟩;rintro e W1 ⟨rfl,b1⟩;have H1:=yH (HMM.out.keep (pAD (S:=fun _=>False) b1) (fun j hj=>hj.elim));have KN1:=yB KN b1;have KB1:=yB KB b1;have O1:=yH (pAM (B:=B) (pAD (S:=fun _=>False) b1) (fun _ _ h=>h));clear b1 d1 d4 h0 h1 o0 CM HMM KN KB;have n0:=KN1.out.cell 0;have fz:=KN1.out.frozen 0;have KN2:=yH (KN1.out.set 0 (.int .i64 m));have KB2:=yH (KB1.out.setOther (a:=⟨w.heap.size+3,0,none⟩) (show ¬b=w.heap.size+3 from fun e=>by have h1:=KB1.out;have h2:=KN1.out;subst e;exact absurd rfl (blk_ne h1 h2 (by decide))) (.int .i64 m));have H2:=yH (H1.out.setN m)
 have O2:Hid (aKx B W (W1.setCell ⟨w.heap.size+3,0,none⟩ (.int .i64 m))):=yH ⟨by simpa using O1.out.size,fun j hj hs=>by
  rw[Below.heap_setCell _ _ _ _ (by show ¬j=w.heap.size+3;have:=HBB.out;omega)];exact O1.out.same j hj hs⟩
 simp at n0;clear H1 KB1 O1;have kb:=KB2.out.cell 0;have s0:=H2.out.sq.cell 0;have sf:=H2.out.sq.frozen 0;have n2:=KN2.out.cell 0;have n2f:=KN2.out.frozen 0;simp at kb s0 n2
 by_cases hq:0<m
 ·have q1:decide (m > 0)=true:=by simpa using hq
  rw[if_pos hq]at HD;clear hq
  gi_wp2_with fail
  generalize W1.setCell ⟨w.heap.size+3,0,none⟩ (.int .i64 m)=W2 at *;clear n0 fz q1 KN1
  have END:Hid (aKx B W ((W2.setCell ⟨w.heap.size+2,0,none⟩ (.int .u64 o.se)).setCell ⟨w.heap.size+3,0,none⟩ (.int .i64 m)).drew∧FsX w ps ls l x .ret ((W2.setCell ⟨w.heap.size+2,0,none⟩ (.int .u64 o.se)).setCell ⟨w.heap.size+3,0,none⟩ (.int .i64 m)).drew):=yH (by
   have k:Keep (fun j=>j=w.heap.size+2∨j=w.heap.size+3) W2 ((W2.setCell ⟨w.heap.size+2,0,none⟩ (.int .u64 o.se)).setCell ⟨w.heap.size+3,0,none⟩ (.int .i64 m)).drew:=
    ((Keep.setCell (S:=fun j=>j=w.heap.size+2∨j=w.heap.size+3) (Keep.refl _ _) (p:=⟨w.heap.size+2,0,none⟩) (.inl (.inl rfl)) _).setCell (p:=⟨w.heap.size+3,0,none⟩) (.inl (.inr rfl)) _).drew
   refine⟨⟨Nat.le_trans O2.out.size k.size,fun j hj hs=>?_⟩,rfl,o.se,m,H2.out.below.trans (k.below H2.out.below.size (fun j hj hs=>by omega)),?_,?_,HD.out⟩
   ·rw[k.block j (yM hs O2.out.size) (by have:=HBB.out;omega)];exact O2.out.same j hj hs
   ·exact(H2.out.sq.set 0 _).setOther (a:=⟨w.heap.size+3,0,none⟩) (show ¬w.heap.size+2=w.heap.size+3 by omega) _
   exact(KN2.out.setOther (a:=⟨w.heap.size+2,0,none⟩) (show ¬w.heap.size+3=w.heap.size+2 by omega) _).set 0 _)
  clear KN2 KB2 H2 O2
  gi_region
  all_goals
   gi_wp2_with fail
   exact END.out
 have q1:decide (m > 0)=false:=by simpa using hq
 rw[if_neg hq]at HD;clear hq
 gi_wp2_with fail
 exact⟨O2.out,k+1,rfl,H2.out,HD.out⟩
theorem cfirst_any(HMy:aCh){w:World}{G M gb base:Nat}{ps:List Int}{ls:List Ln}{l:List Of}{N:Int}{vb:Value}{x:Of}(hL:LedM w G M ps ls)(hI:LInv ps ls)(hP:PB w base gb l N vb)(hJ:BInv l N)(hx:x.Fits)(hm:mayB x.nu x.de=true):
  Calls Tryz.prog 242 #[.agg #[.int .u64 x.se,.int .u8 x.ow,.int .u8 x.sl,.int .u8 x.bu,.int .i64 x.lf,.int .i64 x.nu,.int .i64 x.de],.agg #[.pointer (some ⟨G,0,none⟩),.pointer (some ⟨gb,0,none⟩)]] w (yR w (.tuple #[.int .u64 ((aAx ps ls l x.ow x.ow 1099511627776 x.lf (agO l x.sl x.bu x.nu x.de)).getD (0,0)).1,.int .i64 ((aAx ps ls l x.ow x.ow 1099511627776 x.lf (agO l x.sl x.bu x.nu x.de)).getD (0,0)).2])):=by
 have LT:=And.intro hL.blk.lt (And.intro hL.map.lt (fun b (hb:Foot gb vb b)=>(hP.lt hb).2));have b1:=(Below.refl w.heap.size w).alloc yL (.cells #[.int .u64 x.se,.int .u8 x.ow,.int .u8 x.sl,.int .u8 x.bu,.int .i64 x.lf,.int .i64 x.nu,.int .i64 x.de] 294);have b2:=b1.alloc b1.size (.cells #[.pointer (some ⟨G,0,none⟩),.pointer (some ⟨gb,0,none⟩)] 80);have b3:=b2.alloc b2.size (.cells #[.int .u64 0] 44);have b4:=b3.alloc b3.size (.cells #[.int .i64 0] 2)
 have hM:FsM w G M gb base ps ls l N vb x (((((w.alloc (.cells #[.int .u64 x.se,.int .u8 x.ow,.int .u8 x.sl,.int .u8 x.bu,.int .i64 x.lf,.int .i64 x.nu,.int .i64 x.de] 294)).alloc (.cells #[.pointer (some ⟨G,0,none⟩),.pointer (some ⟨gb,0,none⟩)] 80)).alloc (.cells #[.int .u64 0] 44)).alloc (.cells #[.int .i64 0] 2)).alloc (.cells #[.int .u64 x.se,.int .u8 x.ow,.int .u8 x.sl,.int .u8 x.bu,.int .i64 x.lf,.int .i64 x.nu,.int .i64 x.de] 294) |>.alloc (.cells #[(.pointer (some ⟨gb,0,none⟩))] 78)):=by
  have c1:=(Below.refl ((((w.alloc (.cells #[.int .u64 x.se,.int .u8 x.ow,.int .u8 x.sl,.int .u8 x.bu,.int .i64 x.lf,.int .i64 x.nu,.int .i64 x.de] 294)).alloc (.cells #[.pointer (some ⟨G,0,none⟩),.pointer (some ⟨gb,0,none⟩)] 80)).alloc (.cells #[.int .u64 0] 44)).alloc (.cells #[.int .i64 0] 2)).heap.size ((((w.alloc (.cells #[.int .u64 x.se,.int .u8 x.ow,.int .u8 x.sl,.int .u8 x.bu,.int .i64 x.lf,.int .i64 x.nu,.int .i64 x.de] 294)).alloc (.cells #[.pointer (some ⟨G,0,none⟩),.pointer (some ⟨gb,0,none⟩)] 80)).alloc (.cells #[.int .u64 0] 44)).alloc (.cells #[.int .i64 0] 2))).alloc yL (.cells #[.int .u64 x.se,.int .u8 x.ow,.int .u8 x.sl,.int .u8 x.bu,.int .i64 x.lf,.int .i64 x.nu,.int .i64 x.de] 294);have c2:=c1.alloc c1.size (.cells #[(.pointer (some ⟨gb,0,none⟩))] 78);have b6:=b4.trans (c2.mono b4.size)
  exact⟨b6,(((Blk.new w #[.int .u64 x.se,.int .u8 x.ow,.int .u8 x.sl,.int .u8 x.bu,.int .i64 x.lf,.int .i64 x.nu,.int .i64 x.de] 294).alloc _).alloc _).alloc _ |>.below c2 (by simp;omega),((pAB (w.alloc (.cells #[.int .u64 x.se,.int .u8 x.ow,.int .u8 x.sl,.int .u8 x.bu,.int .i64 x.lf,.int .i64 x.nu,.int .i64 x.de] 294)) #[.pointer (some ⟨G,0,none⟩),.pointer (some ⟨gb,0,none⟩)] 80 (g:=w.heap.size+1) (by simp)).alloc _).alloc _ |>.below c2 (by simp),((pAB ((w.alloc (.cells #[.int .u64 x.se,.int .u8 x.ow,.int .u8 x.sl,.int .u8 x.bu,.int .i64 x.lf,.int .i64 x.nu,.int .i64 x.de] 294)).alloc (.cells #[.pointer (some ⟨G,0,none⟩),.pointer (some ⟨gb,0,none⟩)] 80)) #[.int .u64 0] 44 (g:=w.heap.size+2) (by simp)).alloc _).below c2 (by simp),
   ⟨0,(pAB (((w.alloc (.cells #[.int .u64 x.se,.int .u8 x.ow,.int .u8 x.sl,.int .u8 x.bu,.int .i64 x.lf,.int .i64 x.nu,.int .i64 x.de] 294)).alloc (.cells #[.pointer (some ⟨G,0,none⟩),.pointer (some ⟨gb,0,none⟩)] 80)).alloc (.cells #[.int .u64 0] 44)) #[.int .i64 0] 2 (g:=w.heap.size+3) (by simp)).below c2 (by simp)⟩,hL.below b6,hP.below b6,(pAB ((((w.alloc (.cells #[.int .u64 x.se,.int .u8 x.ow,.int .u8 x.sl,.int .u8 x.bu,.int .i64 x.lf,.int .i64 x.nu,.int .i64 x.de] 294)).alloc (.cells #[.pointer (some ⟨G,0,none⟩),.pointer (some ⟨gb,0,none⟩)] 80)).alloc (.cells #[.int .u64 0] 44)).alloc (.cells #[.int .i64 0] 2)) #[.int .u64 x.se,.int .u8 x.ow,.int .u8 x.sl,.int .u8 x.bu,.int .i64 x.lf,.int .i64 x.nu,.int .i64 x.de] 294 (g:=w.heap.size+4) (by simp)).alloc _,pAB _ _ _ (by simp),LT⟩
 have KC:=yH ((((Blk.new w #[.int .u64 x.se,.int .u8 x.ow,.int .u8 x.sl,.int .u8 x.bu,.int .i64 x.lf,.int .i64 x.nu,.int .i64 x.de] 294).alloc (.cells #[.pointer (some ⟨G,0,none⟩),.pointer (some ⟨gb,0,none⟩)] 80)).alloc (.cells #[.int .u64 0] 44)).alloc (.cells #[.int .i64 0] 2));have KH:=yH (((pAB (w.alloc (.cells #[.int .u64 x.se,.int .u8 x.ow,.int .u8 x.sl,.int .u8 x.bu,.int .i64 x.lf,.int .i64 x.nu,.int .i64 x.de] 294)) #[.pointer (some ⟨G,0,none⟩),.pointer (some ⟨gb,0,none⟩)] 80 (g:=w.heap.size+1) (by simp)).alloc (.cells #[.int .u64 0] 44)).alloc (.cells #[.int .i64 0] 2));have HSZ:Hid (((((w.alloc (.cells #[.int .u64 x.se,.int .u8 x.ow,.int .u8 x.sl,.int .u8 x.bu,.int .i64 x.lf,.int .i64 x.nu,.int .i64 x.de] 294)).alloc (.cells #[.pointer (some ⟨G,0,none⟩),.pointer (some ⟨gb,0,none⟩)] 80)).alloc (.cells #[.int .u64 0] 44)).alloc (.cells #[.int .i64 0] 2)).heap.size=w.heap.size+4):=yH (by simp);have HM:=yH hM;have II:=yH hI;have JJ:=yH hJ;have HX:=yH hx;have HMB:=yH hm;obtain⟨R,hR⟩:∃R,(aAx ps ls l x.ow x.ow 1099511627776 x.lf (agO l x.sl x.bu x.nu x.de)).getD (0,0)=R:=⟨_,rfl⟩;have HR:=yH hR;rw[hR];clear LT b1 b2 b3 b4 hM hL hI hP hJ hx hm hR;generalize hW:((((w.alloc (.cells #[.int .u64 x.se,.int .u8 x.ow,.int .u8 x.sl,.int .u8 x.bu,.int .i64 x.lf,.int .i64 x.nu,.int .i64 x.de] 294)).alloc (.cells #[.pointer (some ⟨G,0,none⟩),.pointer (some ⟨gb,0,none⟩)] 80)).alloc (.cells #[.int .u64 0] 44)).alloc (.cells #[.int .i64 0] 2))=W at *;have HW:=yH hW;clear hW;have d0:=KC.out.cell 0;have d1:=KC.out.cell 1;have d2:=KC.out.cell 2;have d3:=KC.out.cell 3;have d4:=KC.out.cell 4;have d5:=KC.out.cell 5;have d6:=KC.out.cell 6;have h0:=KH.out.cell 0;have h1:=KH.out.cell 1;simp at d0 d1 d2 d3 d4 d5 d6 h0 h1;refine(callsIn_wide (n:=0)).1 ?_;refine callsIn_of_wp_marks Tryz.func242 rfl trivial ?_ rfl;refine wpIn_wide.2 ?_;simp only[Tryz.ntmps242,List.size_toArray,List.length_cons,List.length_nil,Nat.reduceAdd,Nat.reduceSub,Array.replicate_succ,Array.replicate_zero,List.push_toArray,List.append_toArray,List.nil_append,List.cons_append]
 go_upto_region 1 with fail
 rw[HW.out];go_wp2_with fail;refine(aTs x _ _).mono ?_;rintro e w6 ⟨rfl,rfl⟩;rw[HSZ.out];clear d0 d1 d2 d3 d4 d5 d6 h0 h1 KC KH;have X6:Hid (((W.alloc (.cells #[.int .u64 x.se,.int .u8 x.ow,.int .u8 x.sl,.int .u8 x.bu,.int .i64 x.lf,.int .i64 x.nu,.int .i64 x.de] 294)).alloc (.cells #[(.pointer (some ⟨gb,0,none⟩))] 78)).heap.size=w.heap.size+6):=yH (by have:=HSZ.out;simp;omega);go_wp2_with fail;generalize hX:(W.alloc (.cells #[.int .u64 x.se,.int .u8 x.ow,.int .u8 x.sl,.int .u8 x.bu,.int .i64 x.lf,.int .i64 x.nu,.int .i64 x.de] 294)).alloc (.cells #[(.pointer (some ⟨gb,0,none⟩))] 78)=X at *;clear hX
 refine wp_roundsK (gf:=304) (lb:=#[(.pointer (some ⟨w.heap.size+4,0,none⟩)),(.pointer (some ⟨w.heap.size+5,0,none⟩))]) rfl (enters_of Tryz.func304 (by kernel_rfl) rfl)
  (FsI w G M gb base ps ls l N vb x) (fun k vs _=>∃o:Of,(agO l x.sl x.bu x.nu x.de)[k]? = some o∧vs=#[.agg #[.int .u64 o.se,.int .u8 o.ow,.int .u8 o.sl,.int .u8 o.bu,.int .i64 o.lf,.int .i64 o.nu,.int .i64 o.de]]) (FsX w ps ls l x) (fun k=>(agO l x.sl x.bu x.nu x.de).length≤k) (fun k k'=>k'=k+1)
  (fun k vs a' W'=>∃(o:Of) (b:Nat),(agO l x.sl x.bu x.nu x.de)[k]? = some o∧Blk W' b #[.int .u64 o.se,.int .u8 o.ow,.int .u8 o.sl,.int .u8 o.bu,.int .i64 o.lf,.int .i64 o.nu,.int .i64 o.de] 75∧a'=⟨#[.agg #[.int .u64 x.se,.int .u8 x.ow,.int .u8 x.sl,.int .u8 x.bu,.int .i64 x.lf,.int .i64 x.nu,.int .i64 x.de],.agg #[.pointer (some ⟨G,0,none⟩),.pointer (some ⟨gb,0,none⟩)],(.pointer (some ⟨w.heap.size,0,none⟩)),(.pointer (some ⟨w.heap.size+1,0,none⟩)),(.pointer (some ⟨w.heap.size+2,0,none⟩)),(.pointer (some ⟨w.heap.size+3,0,none⟩)),(.pointer (some ⟨b,0,none⟩)),.agg #[.int .u64 x.se,.int .u8 x.ow,.int .u8 x.sl,.int .u8 x.bu,.int .i64 x.lf,.int .i64 x.nu,.int .i64 x.de],(.pointer (some ⟨w.heap.size+1,1,none⟩)),(.pointer (some ⟨gb,0,none⟩)),.func (.func 304) #[] #[(.pointer (some ⟨w.heap.size+4,0,none⟩)),(.pointer (some ⟨w.heap.size+5,0,none⟩))],.agg #[.int .u64 o.se,.int .u8 o.ow,.int .u8 o.sl,.int .u8 o.bu,.int .i64 o.lf,.int .i64 o.nu,.int .i64 o.de],undef,undef,undef,undef,undef,undef,undef,undef,undef,undef,undef,undef,undef,undef,undef],[]⟩)
  (fun k=>fits_FsI (by rw[X6.out];omega) k) (fun c=>fits_FsX (by rw[X6.out];omega) c)
  (fun k vs a=>⟨fun W1 W2 ⟨o,b,h1,h2,h3⟩ q=>⟨o,b,h1,h2.below q h2.lt,h3⟩,fun W1 lo ob ob' ⟨o,b,h1,h2,h3⟩ _ hg ho=>⟨o,b,h1,h2.turn hg ho ob',h3⟩⟩)
  (fun k vs W' ⟨o,_,h⟩=>by rw[h];rfl) 0
  (aTt x HX.out HMB.out JJ.out (fun k W' h=>⟨h.1.book,h.1.c4,h.1.c5⟩)) ⟨HM.out,by rw[List.drop_zero]⟩ ?assign ?body ?done ?stop
 case assign=>
  rintro m lo k vs W' K _ ⟨o,ho,rfl⟩ hK
  gi_wp2_with fail
  exact hK _ _ (yZ.alloc yL _) ⟨o,_,ho,Blk.new _ _ _,rfl⟩
 case body=>
  rintro m0 lo k vs a' W' hW' hM ⟨o,b,ho,hb,rfl⟩;exact fs_body HMy II.out JJ.out HX.out hM ho hb (by rw[X6.out];omega)
 case done=>
  intro D k W' hD hS hM hK;obtain rfl:(0,0)=R:=by rw[←HR.out,hM.2,List.drop_eq_nil_of_le hS];rfl
  obtain⟨v,hv⟩:=hM.1.nn;have s0:=hM.1.sq.cell 0;have sf:=hM.1.sq.frozen 0;have n0:=hv.cell 0;have nf:=hv.frozen 0;simp at s0 n0;have DD:=yH (show w.heap.size+6≤D by have:=X6.out;omega);have HMM:=yH hM.1;have KN:=yH hv;have DK:=yH hK;clear hD hS hM hK hv;go_wp2_with fail;obtain⟨W9,h9⟩:∃W9,W9=(W'.setCell ⟨w.heap.size+2,0,none⟩ (.int .u64 0)).setCell ⟨w.heap.size+3,0,none⟩ (.int .i64 0):=⟨_,rfl⟩
  have k:Keep (fun j=>j=w.heap.size+2∨j=w.heap.size+3) W' W9:=by
   rw[h9];exact(Keep.setCell (S:=fun j=>j=w.heap.size+2∨j=w.heap.size+3) (Keep.refl _ _) (p:=⟨w.heap.size+2,0,none⟩) (.inl (.inl rfl)) _).setCell (p:=⟨w.heap.size+3,0,none⟩) (.inl (.inr rfl)) _
  have e1:W9.heap[D]? = some (.deferred (some [])):=(k.block D (Array.getElem?_eq_some_iff.1 DK.out).1 (by have:=DD.out;omega)).trans DK.out
  have e2:(W9.putObj D (.deferred none)).cell? ⟨w.heap.size+2,0,none⟩=some (.int .u64 0):=by
   rw[World.cell?_of_block (w:=W9) (World.putObj_heap_other (by show ¬w.heap.size+2=D;have:=DD.out;omega)),h9];have:=((HMM.out.sq.set 0 (.int .u64 0)).setOther (a:=⟨w.heap.size+3,0,none⟩) (show ¬w.heap.size+2=w.heap.size+3 by omega) (.int .i64 0)).cell 0;simpa using this
  have e3:(W9.putObj D (.deferred none)).cell? ⟨w.heap.size+3,0,none⟩=some (.int .i64 0):=by
   rw[World.cell?_of_block (w:=W9) (World.putObj_heap_other (by show ¬w.heap.size+3=D;have:=DD.out;omega)),h9];have:=((KN.out.setOther (a:=⟨w.heap.size+2,0,none⟩) (show ¬w.heap.size+3=w.heap.size+2 by omega) (.int .u64 0)).set 0 (.int .i64 0)).cell 0;simpa using this
  have e4:Below w.heap.size w (W9.putObj D (.deferred none)):=(HMM.out.below.trans (k.below HMM.out.below.size (fun j hj hs=>by omega))).trans (aFp _ _ (by have:=DD.out;omega));rw[←h9];refine⟨by simp,.inl ⟨_,_,rfl,run_takeDeferred e1,?_⟩⟩;exact⟨_,by simp[results,Tryz.results242,go_sem,e2,e3],rfl,e4⟩
 rintro D c W' hD ⟨rfl,s,n,hB,hs,hn,hf⟩ hK;obtain rfl:(s,n)=R:=by rw[←HR.out,hf];rfl
 have DD:=yH (show w.heap.size+6≤D by have:=X6.out;omega);have DK:=yH hK;have HB:=yH hB;have KS:=yH hs;have KN:=yH hn;clear hD hK hB hs hn hf;go_wp2_with fail
 have e2:(W'.putObj D (.deferred none)).cell? ⟨w.heap.size+2,0,none⟩=some (.int .u64 s):=by
  rw[World.cell?_of_block (w:=W') (World.putObj_heap_other (by show ¬w.heap.size+2=D;have:=DD.out;omega))];have:=KS.out.cell 0;simpa using this
 have e3:(W'.putObj D (.deferred none)).cell? ⟨w.heap.size+3,0,none⟩=some (.int .i64 n):=by
  rw[World.cell?_of_block (w:=W') (World.putObj_heap_other (by show ¬w.heap.size+3=D;have:=DD.out;omega))];have:=KN.out.cell 0;simpa using this
 have e4:Below w.heap.size w (W'.putObj D (.deferred none)):=HB.out.trans (aFp _ _ (by have:=DD.out;omega));refine⟨by simp,.inl ⟨_,_,rfl,run_takeDeferred DK.out,?_⟩⟩;exact⟨_,by simp[results,Tryz.results242,go_sem,e2,e3],rfl,e4⟩
end Go.Proofs.YtngnfdnfpiiclaaGreat
namespace Go.Proofs.YtngnfdnfpiiclaaGreat
open Go.RowKit
def signed(neg:Bool)(x:Nat):Int:=if neg then -(x:Int)else x
def Lst(k:IntKind)(w:World)(a:Option Addr)(cap:Nat)(zs:List Int):Prop:=
 (zs=[]∧(a=none→cap=0))∨∃b off,a=some ⟨b,off,none⟩∧zs≠[]∧b<w.heap.size∧∀i (h:i<zs.length),w.cell? ⟨b,off+i,none⟩=some (.int k zs[i])
def Fl.vals(tk pt:Int)(f:Fl):List Value:=[.int .u64 f.se,.int .u8 tk,.int .u8 pt,.int .i64 f.got,.int .i64 f.gi]
def aCf(tk pt:Int)(fs:List Fl):List Value:=fs.flatMap (Fl.vals tk pt)
theorem aM5(tk pt:Int)(fs:List Fl):(aCf tk pt fs).length=fs.length*5:=aFv _ 5 (fun _=>rfl) fs
theorem aM6(tk pt:Int)(fs:List Fl)(i j:Nat)(hj:j<5)(h:i<fs.length):(aCf tk pt fs)[i*5+j]? = (fs[i].vals tk pt)[j]? := by
 unfold aCf;rw[aE6 _ 5 (fun _=>rfl) fs i j hj,List.getElem?_eq_getElem h];rfl
theorem aKz(tk pt:Int)(fs:List Fl)(f:Fl):aCf tk pt (fs++[f])=aCf tk pt fs++f.vals tk pt:=by
 unfold aCf;rw[List.flatMap_append];simp
theorem own_cell5{w:World}{base n cap:Nat}{ao:Option Addr}{e:TypeId}{tk pt:Int}{fs:List Fl}(h:w.ownsRow base e 5 (.slice ao n cap) n (aCf tk pt fs)){k:Nat}(hk:k<fs.length):
  ∃b,ao=some ⟨b,0,none⟩∧∀w',Below w.heap.size w w'→b<w'.heap.size∧∀j,j<5→w'.cell? ⟨b,k*5+j,none⟩=(fs[k].vals tk pt)[j]? := by
 obtain⟨hl,h2⟩:=h;have hz:=aM5 tk pt fs;rcases h2 with⟨h2,h3⟩|⟨g,cap',cur,hv,hge,hg,hnc,hcm,hsz,htk⟩
 ·have:=hl;rw[h3]at this;omega
 cases hv
 have hB:Blk w g cur e:=hg;refine⟨g,rfl,fun w' k'=>⟨(hB.below k' hB.lt).lt,fun j hj=>?_⟩⟩;rw[(hB.below k' hB.lt).cell];have e:=aM6 tk pt fs k j hj hk;rw[←htk,List.getElem?_take_of_lt (by omega)]at e;rw[Array.getElem?_toList]at e;exact e
theorem info_i64:(Tryz.prog.info? 2).map (fun i=>(i.zero,i.size,i.bytes))=some (some (.int .i64 0),1,8):=by kernel_rfl
theorem own_lst{w:World}{base n cap:Nat}{ao:Option Addr}{e:TypeId}{zs:List Int}(h:w.ownsRow base e 1 (.slice ao n cap) n (zs.map (.int .i64)))(hn:n=zs.length):Lst .i64 w ao cap zs:=by
 obtain⟨hl,h2⟩:=h;rcases h2 with⟨h2,h3⟩|⟨g,cap',cur,hv,hge,hg,hnc,hcm,hsz,htk⟩
 ·cases h2
  refine .inl ⟨List.eq_nil_of_length_eq_zero (by omega),fun _=>rfl⟩
 cases hv
 have hB:Blk w g cur e:=hg
 by_cases hz:zs=[]
 ·exact .inl ⟨hz,fun h=>by cases h⟩
 refine .inr ⟨g,0,rfl,hz,hB.lt,fun i hi=>?_⟩;rw[Nat.zero_add,hB.cell];have e:(zs.map (Value.int .i64))[i]? = some (.int .i64 zs[i]):=by rw[List.getElem?_map,List.getElem?_eq_getElem hi];rfl
 rw[←htk,List.getElem?_take_of_lt (by omega),Array.getElem?_toList]at e;exact e
theorem aOm{w:World}{base:Nat}{v:Value}{n:Nat}{xs:List Value}(h:w.ownsRow base 241 5 v n xs):
  Calls Tryz.prog 236 #[v] w (aHg w base 241 5 n v xs):=by
 rcases h.2 with⟨rfl,h0⟩|⟨g,cap,cur,rfl,hbase,hb,h1,h2,h3,h4⟩
 ·subst h0;have hr:=aBg (P:=Tryz.prog) w 235 241 5 Tryz.underlying235 (Tryz.sizeOf241 w);have hx:=h.1;have hx2:=yH hx;clear h hx;go_enter Tryz.func236,Tryz.ntmps236;go_wp2;refine bodyPost_ret (v:=.slice none 0 0) (by simp[results,Tryz.results236,go_sem]) rfl ?_;exact⟨_,rfl,⟨hx2.out,.inl ⟨rfl,rfl⟩⟩,rfl,rfl⟩
 have hr:=aCe (P:=Tryz.prog) w 235 241 5 Tryz.underlying235 (Tryz.sizeOf241 w) g n cap h1;have HR:=yH (show aBj w base 241 5 (.slice (some ⟨g,0,none⟩) n n) n xs from⟨h.1,.inr ⟨g,cur,rfl,hbase,hb,by omega,by omega,h4⟩⟩);clear h hb h4 h3;unfold maxLen at h2;go_enter Tryz.func236,Tryz.ntmps236;go_wp2;refine bodyPost_ret (v:=.slice (some ⟨g,0,none⟩) n n) (by simp[results,Tryz.results236,go_sem]) rfl ?_;exact⟨_,rfl,HR.out,rfl,rfl⟩
def SumNil(w:World)(i:Value)(wr:World):Prop:=i=.int .i64 0∧Below w.heap.size w wr∧Blk wr w.heap.size #[.int .u64 0,.int .u64 0] 340
theorem psum_nil(a:Option Addr)(cap:Nat)(w:World):Calls Tryz.prog 199 #[.slice a 0 cap] w (yR w (ans 0)):=by
 go_enter Tryz.func199,Tryz.ntmps199;go_wp2
 go_loopw [9] (SumNil w) (fun _ _=>0)
 case atStart=>exact⟨rfl,yZ.alloc yL _,Blk.new _ _ _⟩
 obtain⟨rfl,hb,hblk⟩:=hrel;have hg:=hblk.lt;have hc0:wr.cell? ⟨w.heap.size,0,none⟩=some (.int .u64 0):=hblk.cell 0;have hc1:wr.cell? ⟨w.heap.size,1,none⟩=some (.int .u64 0):=hblk.cell 1;have hn:=aHk 0 wr (by omega) (by omega);simp only[aCg,show hi64 0=0 by decide,show lo64 0=0 by decide]at hn;go_wp2_with fail;refine hn.mono ?_;rintro e w4 ⟨rfl,b4⟩;unfold ans;go_wp2;go_ret2;exact⟨rfl,hb.trans (b4.mono (Nat.le_of_lt hg))⟩
theorem psum_lst(a:Option Addr)(cap:Nat)(zs:List Int)(w:World)(hz:∀z∈zs,In64 z)(hl:zs.length≤140737488355328)(ha:Lst .i64 w a cap zs):
  Calls Tryz.prog 199 #[.slice a zs.length cap] w (yR w (ans zs.sum)):=by
 rcases ha with⟨rfl,_⟩|⟨b,off,rfl,_,hlt,hc⟩
 ·exact psum_nil a cap w
 exact sum_any b off cap zs w hz hl hlt hc
def FillsIn(w:World)(ao:Option Addr)(tk pt:Int)(fs:List Fl):Prop:=
 ∀k (h:k<fs.length),∃b,ao=some ⟨b,0,none⟩∧∀w',Below w.heap.size w w'→b<w'.heap.size∧∀j,j<5→w'.cell? ⟨b,k*5+j,none⟩=(fs[k].vals tk pt)[j]?
def PGvAt(W:World)(fs:List Fl)(v i:Value)(wr:World):Prop:=
 ∃k:Nat,k≤fs.length∧i=.int .i64 k∧wr.ownsRow W.heap.size 2 1 v k (((fs.take k).map Fl.gi).map (.int .i64))∧Below W.heap.size W wr
theorem aRq{w:World}{ao:Option Addr}{cap:Nat}{tk pt:Int}{fs:List Fl}(hv:FillsIn w ao tk pt fs)(h64:∀f∈fs,In64 f.gi)(hlen:fs.length≤1000)(hc1:fs.length≤cap)(hc2:cap≤maxLen):
  Calls Tryz.prog 155 #[.slice ao fs.length cap] w (yR w (.int .i64 (okN (fs.map Fl.gi).sum))):=by
 have HV:=yH hv;have H64:=yH h64;unfold maxLen at hc2;clear hv h64;go_enter Tryz.func155,Tryz.ntmps155;go_wp2_with fail
 go_loopw [3,5,10] (fun v _ i wr=>PGvAt w fs v i wr) (fun _ _ i _=>fs.length - (intOf i).toNat)
 case atStart=>exact⟨0,by omega,rfl,World.ownsRow_nil w _ _ _,yZ⟩
 obtain⟨k,hk,rfl,ho,hb⟩:=hrel
 by_cases hkl:k<fs.length
 ·have hki:(k:Int)<(fs.length:Int):=by omega
  have hk0:(0:Int)≤(k:Int):=by omega
  obtain⟨b,hbb,hc⟩:=HV.out k hkl;subst hbb;obtain⟨hbl,hcj⟩:=hc wr hb;have c0:=hcj 0 (by omega);have c1:=hcj 1 (by omega);have c2:=hcj 2 (by omega);have c3:=hcj 3 (by omega);have c4:=hcj 4 (by omega)
  have HT:Hid (((fs.take (k+1)).map Fl.gi).map (Value.int .i64)=((fs.take k).map Fl.gi).map (.int .i64)++[.int .i64 fs[k].gi]):=yH (by
   rw[List.take_succ_eq_append_getElem hkl,List.map_append,List.map_append];rfl)
  simp only[Fl.vals,List.getElem?_cons_zero,List.getElem?_cons_succ]at c0 c1 c2 c3 c4;have OO:=yH ho;have BB:=yH hb;have HK:=yH hkl;clear ho hb hc hcj;generalize fs[k]=f at *;obtain⟨se,got,x⟩:=f;dsimp only at c0 c1 c2 c3 c4 HT;clear hkl;rw[Nat.add_zero]at c0;go_wp2_with (at_builtin;refine aAy _ rfl (.tmp 14) (.tmp 17) 215 2 rfl Tryz.underlying215 info_i64 rfl (by decide) (by decide) w.heap.size _ k _ rfl ((OO.out.alloc _).alloc _) (wr.heap.size+1) 1 [.int .i64 x] rfl rfl (pAB _ _ _ (by simp)) (by simp[Value.oneCell']) (by omega) (by have:=BB.out.size;simp;omega) ?_);intro v2 w2 ho2 hg2;have HO2:=yH (show w2.ownsRow w.heap.size 2 1 v2 (k+1) (((fs.take (k+1)).map Fl.gi).map (.int .i64))from by rw[HT.out];simpa [List.map_take]using ho2);have BB2:=yH (aGa (BB.out.alloc BB.out.size _) (by have:=BB.out.size;simp;omega) hg2 (fun b hb=>(aAe OO.out hb).1));clear ho2 hg2;go_wp2_with fail;exact⟨⟨k+1,by have:=HK.out;omega,by go_num,HO2.out,BB2.out⟩,by simp[intOf];have:=HK.out;omega⟩
 have hkn:k=fs.length:=by omega
 subst hkn;rw[List.take_length]at ho;obtain⟨a2,cap2,rfl,d1,d2,_,_⟩:=aAg ho;have CS:=yH (psum_lst a2 cap2 (fs.map Fl.gi) wr (by intro z hz;obtain⟨f,hf,rfl⟩:=List.mem_map.1 hz;exact H64.out f hf) (by simp;omega) (own_lst ho (by simp)));rw[List.length_map]at CS;unfold ans at CS;have BB:=yH hb;clear hb ho;go_wp2_with fail;refine CS.out.mono ?_;rintro e w2 ⟨rfl,b2⟩;have B2:=yT BB b2;clear b2;go_wp2_with fail;go_ret;exact⟨rfl,B2.out⟩
theorem pgiven_any{w:World}{base:Nat}{tk pt:Int}{fs:List Fl}{v:Value}(hv:w.ownsRow base 241 5 v fs.length (aCf tk pt fs))(h64:∀f∈fs,In64 f.gi)(hlen:fs.length≤1000):
  Calls Tryz.prog 155 #[v] w (yR w (.int .i64 (okN (fs.map Fl.gi).sum))):=by
 obtain⟨ao,cap,rfl,hc1,hc2,hc3,hc4⟩:=aAg hv;exact aRq (fun k hk=>own_cell5 hv hk) h64 hlen hc1 hc2
theorem aM7{w:World}{base:Nat}{ao:Option Addr}{n cap:Nat}{e:TypeId}{tk pt:Int}{fs:List Fl}(h:aBj w base e 5 (.slice ao n cap) n (aCf tk pt fs)):FillsIn w ao tk pt fs:=by
 intro k hk;have hz:=aM5 tk pt fs;obtain⟨ao',cap',hv,_,_,hl,h4⟩:=h.look
 cases hv
 obtain⟨b,rfl,_,hb,hc,_⟩:=h4 (by omega);refine⟨b,rfl,fun w' q=>⟨yM hb q.size,fun j hj=>?_⟩⟩;rw[q.cell (p:=⟨b,k*5+j,none⟩) hb,hc _ (by omega),aM6 tk pt fs k j hj hk]
theorem info_flp12:(Tryz.prog.info? 241).map (fun i=>(i.zero,i.size,i.bytes))=some (some (.agg #[.int .u64 0,.int .u8 0,.int .u8 0,.int .i64 0,.int .i64 0]),5,32):=by kernel_rfl
def slN:Value→Nat
 | .slice _ n _=>n
 | _=>0
def CfAt(W:World)(ch base s1 G M gb:Nat)(ps:List Int)(ls0:List Ln)(l0:List Of)(N:Int)(x:Of)(av:Value)(wr:World):Prop:=
 ∃(σ:SwS) (vb:Value),Blk wr ch #[.int .u64 x.se,.int .u8 x.ow,.int .u8 x.sl,.int .u8 x.bu,.int .i64 σ.n,.int .i64 x.nu,.int .i64 x.de] 294∧LedM wr G M ps σ.ls∧PB wr base gb σ.l N vb∧(∀b,vb.ownBlock=some b→b<s1∨W.heap.size≤b)∧wr.ownsRow W.heap.size 241 5 av σ.fs.length (aCf x.ow x.ow σ.fs)∧aF8 ps ls0 l0 N x.ow x.sl x.bu x.nu x.de x.lf σ∧
  Keep (fun k=>k=ch∨(base≤k∧k<s1)) W wr∧Hid (aB1 ps x.ow x.sl x.bu x.nu x.de 64 ⟨ls0,l0,[],x.lf⟩=aB1 ps x.ow x.sl x.bu x.nu x.de (64 - σ.fs.length) σ)
def PCf(w:World)(ch base G M gb:Nat)(ps:List Int)(ls:List Ln)(l:List Of)(N:Int)(x:Of)(e:Ending)(w':World):Prop:=
 ((aB1 ps x.ow x.sl x.bu x.nu x.de 64 ⟨ls,l,[],x.lf⟩).1=13∧e=.returned (.tuple #[.slice none 0 0,.int .i64 13])∧Keep (fun k=>k=ch∨base≤k) w w')∨
 (∃(vb:Value) (a:Option Addr) (c:Nat) (σ:SwS),aB1 ps x.ow x.sl x.bu x.nu x.de 64 ⟨ls,l,[],x.lf⟩=(0,σ)∧e=.returned (.tuple #[.slice a σ.fs.length c,.int .i64 0])∧Blk w' ch #[.int .u64 x.se,.int .u8 x.ow,.int .u8 x.sl,.int .u8 x.bu,.int .i64 σ.n,.int .i64 x.nu,.int .i64 x.de] 294∧LedM w' G M ps σ.ls∧PB w' base gb σ.l N vb∧
  aBj w' w.heap.size 241 5 (.slice a σ.fs.length c) σ.fs.length (aCf x.ow x.ow σ.fs)∧Keep (fun k=>k=ch∨base≤k) w w')
theorem aPs{ps:List Int}{ls0:List Ln}{l0:List Of}{N ow sl bu nu de n0:Int}{σ:SwS}(h:aF8 ps ls0 l0 N ow sl bu nu de n0 σ)(fuel:Nat)(hf:aAx ps σ.ls σ.l ow ow 1099511627776 σ.n (agO σ.l sl bu nu de)=none):aB1 ps ow sl bu nu de fuel σ=(0,σ):=by
 by_cases hn:σ.n≤0
 ·exact aIm hn
 exact aIn hn hf
def DoT(w1:World)(base G M gb:Nat)(ps:List Int)(ls:List Ln)(l:List Of)(N:Int)(vb:Value)(w':World):Prop:=∃vb',LedM w' G M ps ls∧PB w' base gb l N vb'∧aEg w1 vb vb'
def DoI(w1:World)(base G M gb:Nat)(ps:List Int)(ls:List Ln)(l:List Of)(N:Int)(vb:Value)(xc:Array Value)(g:Nat)(D:Nat→Bool)(w':World):Prop:=
 (D 11=false→Below w1.heap.size w1 w')∧(D 11=true→DoT w1 base G M gb ps ls l N vb w'∧Keep (fun k=>k=G∨k=M∨Foot gb vb k) w1 w')∧w1.heap.size≤w'.heap.size∧
  (D 15=true→w1.heap.size≤g∧(D 16=false→Blk w' g #[.int .u64 0,.int .u8 0,.int .u8 0,.int .i64 0,.int .i64 0] 241)∧(D 16=true→Blk w' g xc 241))
section
variable{w1 w' w'':World}{base G M gb g:Nat}{ps:List Int}{ls:List Ln}{l:List Of}{N:Int}{vb:Value}{xc:Array Value}{D:Nat→Bool}
theorem DoI.start:DoI w1 base G M gb ps ls l N vb xc 0 (fun _=>false) w1.drew:=⟨fun _=>yZ.drew,fun h=>(Bool.false_ne_true h).elim,Nat.le_refl _,fun h=>(Bool.false_ne_true h).elim⟩
theorem DoI.keep(k:Nat)(h:DoI w1 base G M gb ps ls l N vb xc g D w')(hk:(k==11 || k==15 || k==16)=false):DoI w1 base G M gb ps ls l N vb xc g (ins k D) w':=by
 simp only[Bool.or_eq_false_iff,beq_eq_false_iff_ne]at hk;unfold DoI at h ⊢;rw[show ins k D 11=D 11 by simp[ins];omega,show ins k D 15=D 15 by simp[ins];omega,show ins k D 16=D 16 by simp[ins];omega];exact h
theorem DoI.lay(h:DoI w1 base G M gb ps ls l N vb xc g D w')(h16:D 16=false):DoI w1 base G M gb ps ls l N vb xc w'.heap.size (ins 15 D) (w'.alloc (.cells #[.int .u64 0,.int .u8 0,.int .u8 0,.int .i64 0,.int .i64 0] 241)):=by
 have b:=(Below.refl w'.heap.size w').alloc yL (.cells #[.int .u64 0,.int .u8 0,.int .u8 0,.int .i64 0,.int .i64 0] 241);obtain⟨a1,a2,a3,_⟩:=h;refine⟨fun q=>?_,fun q=>?_,Nat.le_trans a3 b.size,fun _=>⟨a3,fun _=>Blk.new _ _ _,fun q=>?_⟩⟩
 ·exact(a1 (by simpa [ins]using q)).trans (b.mono a3)
 ·obtain⟨⟨vb',c1,c2,c3⟩,c4⟩:=a2 (by simpa [ins]using q);exact⟨⟨vb',c1.below b,c2.below b,c3⟩,c4.trans (pAD b)⟩
 rw[show ins 15 D 16=D 16 by simp[ins],h16]at q
 cases q
theorem DoI.call(h:DoI w1 base G M gb ps ls l N vb xc g D w')(h11:D 11=false)(h16:D 16=false)(hlt:∀k,(k=G∨k=M∨Foot gb vb k)→k<w1.heap.size)(hT:DoT w1 base G M gb ps ls l N vb w'')(hk:Keep (fun k=>k=G∨k=M∨Foot gb vb k) w' w''):
  DoI w1 base G M gb ps ls l N vb xc g (ins 11 D) w'':=by
 obtain⟨a1,_,a3,a4⟩:=h;refine⟨fun q=>?_,fun _=>⟨hT,(pAD (a1 h11)).trans hk⟩,Nat.le_trans a3 hk.size,fun q=>?_⟩
 ·simp[ins]at q
 obtain⟨c1,c2,_⟩:=a4 (by simpa [ins]using q);refine⟨c1,fun _=>(c2 h16).keep hk (fun e=>by have:=hlt _ e;omega),fun q2=>?_⟩;rw[show ins 11 D 16=D 16 by simp[ins],h16]at q2
 cases q2
theorem DoI.fill(h:DoI w1 base G M gb ps ls l N vb xc g D w')(h11:D 11=true)(h15:D 15=true)(h16:D 16=false)(hlt:∀k,(k=G∨k=M∨Foot gb vb k)→k<w1.heap.size):DoI w1 base G M gb ps ls l N vb xc g (ins 16 D) (w'.setRow g xc):=by
 obtain⟨_,a2,a3,a4⟩:=h;obtain⟨⟨vb',c1,c2,c3⟩,c4⟩:=a2 h11;obtain⟨d1,d2,_⟩:=a4 h15;have hb:=d2 h16;have kk:=aAc (w:=w') g xc;refine⟨fun q=>?_,fun _=>⟨⟨vb',c1.keep kk (fun e=>by have:=hlt G (.inl rfl);omega) (fun e=>by have:=hlt M (.inr (.inl rfl));omega),c2.keep kk (fun e=>by have:=hlt gb (.inr (.inr (.inl rfl)));omega) (fun b hb'=>aB0 c2.row hb (by decide) b hb'),c3⟩,c4.trans_new kk (fun j hj e=>by omega)⟩,Nat.le_trans a3 kk.size,fun _=>⟨d1,fun q=>?_,fun _=>setRow_heap _ g _ _ _ (0,0) hb⟩⟩
 ·rw[show ins 16 D 11=D 11 by simp[ins],h11]at q
  cases q
 simp[ins]at q
end
theorem cfill_any(HMy:aCh)(HD:aD1){w:World}{ch base G M gb:Nat}{ps:List Int}{ls:List Ln}{l:List Of}{N:Int}{vb:Value}(hL:LedM w G M ps ls)(hI:LInv ps ls)(hP:PB w base gb l N vb)(hJ:BInv l N)(hG:base≤G)(hM:base≤M)(hb:base≤w.heap.size)
  (x:Of)(hx:x.Fits)(hm:mayB x.nu x.de=true)(hn:1≤x.lf∧x.lf≤1099511627776)(hc:Blk w ch #[.int .u64 x.se,.int .u8 x.ow,.int .u8 x.sl,.int .u8 x.bu,.int .i64 x.lf,.int .i64 x.nu,.int .i64 x.de] 294)(hcb:ch<base):
  Calls Tryz.prog 201 #[(.pointer (some ⟨ch,0,none⟩)),.agg #[.pointer (some ⟨G,0,none⟩),.pointer (some ⟨gb,0,none⟩)],.int .i64 64] w (PCf w ch base G M gb ps ls l N x):=by
 have b1:=(Below.refl w.heap.size w).alloc yL (.cells #[.pointer (some ⟨G,0,none⟩),.pointer (some ⟨gb,0,none⟩)] 80);have KH:=yH (Blk.new w #[.pointer (some ⟨G,0,none⟩),.pointer (some ⟨gb,0,none⟩)] 80);have HL:=yH (hL.below b1);have HP:=yH (hP.below b1);have HCh:=yH (hc.below b1 hc.lt);have BW:=yH b1;have GE:=yH (show base≤G∧base≤M∧base≤w.heap.size∧G<w.heap.size∧M<w.heap.size∧gb<w.heap.size∧base≤gb∧(∀b,vb.ownBlock=some b→b<w.heap.size)∧ch<base from⟨hG,hM,hb,hL.blk.lt,hL.map.lt,hP.blk.lt,hP.ge,fun b hb=>(hP.lt (.inr hb)).2,hcb⟩);have II:=yH hI;have JJ:=yH hJ;have HX:=yH hx;have HN:=yH hn;have HMB:=yH hm;have HWS:Hid ((w.alloc (.cells #[.pointer (some ⟨G,0,none⟩),.pointer (some ⟨gb,0,none⟩)] 80)).heap.size=w.heap.size+1):=yH (by simp);clear b1 hL hI hP hJ hG hM hb hx hm hn hc hcb;generalize hW:w.alloc (.cells #[.pointer (some ⟨G,0,none⟩),.pointer (some ⟨gb,0,none⟩)] 80)=W at *;have HW:=yH hW;clear hW;go_enter Tryz.func201,Tryz.ntmps201
 go_upto_region 1 with fail
 rw[HW.out]
 go_loopw [6,8,9,10,11] (fun av _ _ _ _ wr=>CfAt W ch base w.heap.size G M gb ps ls l N x av wr) (fun av _ _ _ _ _=>64 - slN av)
 case atStart=>exact⟨⟨ls,l,[],x.lf⟩,vb,HCh.out,HL.out,HP.out,fun b hb=>.inl (GE.out.2.2.2.2.2.2.2.1 b hb),World.ownsRow_nil _ _ _ _,aF8.start II.out JJ.out (by have:=HN.out;omega),Keep.refl _ _,yH rfl⟩
 obtain⟨σ,vb,hRC,hRL,hRB,hVB,hO,hS,hK,HE⟩:=hrel;have RC:=yH hRC;have RL:=yH hRL;have RB:=yH hRB;have VB:=yH hVB;have OO:=yH hO;have SI:=yH hS;have KK:=yH hK;have KHr:=yH (KH.out.keep hK (by have:=GE.out;omega));obtain⟨sn,hsn⟩:∃sn,σ.n=sn:=⟨_,rfl⟩;have HSN:=yH hsn
 have hsle:0≤sn∧sn≤1099511627776:=by
  have h1:=hS.sum;have h2:=hS.nn;have h3:0≤(σ.fs.map Fl.gi).sum:=hS.gi_nn;have:=HN.out;omega
 rw[hsn]at RC;obtain⟨ao,cap,hav,hc1,hc2,_,_⟩:=aAg hO;subst hav;unfold maxLen at hc2;clear hRC hRL hRB hO hS hK hVB hsn KH HL HP HCh;obtain⟨rs,rk,hr⟩:∃rs rk,(aAx ps σ.ls σ.l x.ow x.ow 1099511627776 sn (agO σ.l x.sl x.bu x.nu x.de)).getD (0,0)=(rs,rk):=⟨_,_,rfl⟩;have HRr:=yH hr
 have CF:=yH (fun w' (h:Below wr.heap.size wr w')=>(show Calls Tryz.prog 242 #[.agg #[.int .u64 x.se,.int .u8 x.ow,.int .u8 x.sl,.int .u8 x.bu,.int .i64 sn,.int .i64 x.nu,.int .i64 x.de],.agg #[.pointer (some ⟨G,0,none⟩),.pointer (some ⟨gb,0,none⟩)]] w' fun e w''=>e=.returned (.tuple #[.int .u64 rs,.int .i64 rk])∧Below w'.heap.size w' w'' from by
  have q:=cfirst_any (x:=⟨x.se,x.ow,x.sl,x.bu,sn,x.nu,x.de⟩) HMy (RL.out.below h) SI.out.linv (RB.out.below h) SI.out.binv ⟨HX.out.se,HX.out.ow,HX.out.sl,HX.out.bu,⟨by show _≤sn;omega,by show sn≤_;omega⟩,HX.out.nu,HX.out.de⟩ HMB.out;dsimp only at q;rw[HRr.out]at q;exact q))
 clear hr;go_wp2_with fail
 refine aAm (by kernel_rfl) [(.pointer (some ⟨ch,0,none⟩)),(.pointer (some ⟨ch,0,none⟩)),(.agg #[.int .u64 x.se,.int .u8 x.ow,.int .u8 x.sl,.int .u8 x.bu,.int .i64 sn,.int .i64 x.nu,.int .i64 x.de]),(.agg #[.pointer (some ⟨G,0,none⟩),.pointer (some ⟨gb,0,none⟩)]),(.tuple #[.int .u64 rs,.int .i64 rk]),(.tuple #[.int .u64 rs,.int .i64 rk]),(.int .u64 rs),(.int .i64 rk),(.int .u64 rs),(.int .i64 rk)]
  (fun w'=>Below wr.heap.size wr w') (by kernel_rfl) yZ.drew ?_
 intro af haf;simp only[yG,List.append_eq,List.cons_append,List.nil_append,puts,Act.put,yA,yC,yF,yD,yE]at haf;subst haf;refine⟨?_,?_⟩
 ·simp only[yG,List.append_eq,List.cons_append,List.nil_append,aBf];refine⟨?z1,?z2,?_,?_,?_,?z3,?z4,?z5,?z6,?z7,trivial⟩
  case z1|z2|z3|z4|z5|z6|z7=>
   intro w' hS;refine yO rfl ?_;have HS:=yH hS;clear hS;go_wp2_with fail;all_goals first|exact HS|exact⟨rfl,HS⟩|rfl|exact⟨by omega,HS.out⟩
  ·intro w' hS;refine yO rfl ?_;have d0_0:=(RC.out.below hS RC.out.lt).cell 0;have d0_1:=(RC.out.below hS RC.out.lt).cell 1;have d0_2:=(RC.out.below hS RC.out.lt).cell 2;have d0_3:=(RC.out.below hS RC.out.lt).cell 3;have d0_4:=(RC.out.below hS RC.out.lt).cell 4;have d0_5:=(RC.out.below hS RC.out.lt).cell 5;have d0_6:=(RC.out.below hS RC.out.lt).cell 6;simp at d0_0 d0_1 d0_2 d0_3 d0_4 d0_5 d0_6;have HS:=yH hS;clear hS;go_wp2_with fail;all_goals first|exact HS|exact⟨rfl,HS⟩|rfl|exact⟨by omega,HS.out⟩
  ·intro w' hS;refine yO rfl ?_;have d0_0:=(KHr.out.below hS KHr.out.lt).cell 0;have d0_1:=(KHr.out.below hS KHr.out.lt).cell 1;simp at d0_0 d0_1;have HS:=yH hS;clear hS;go_wp2_with fail;all_goals first|exact HS|exact⟨rfl,HS⟩|rfl|exact⟨by omega,HS.out⟩
  intro w' hS;refine yO rfl ?_;have HS:=yH hS;clear hS;go_wp2_with fail;refine(CF.out _ HS.out).mono ?_;rintro e w'' ⟨rfl,hb2⟩;exact⟨rfl,andB HS.out hb2⟩
 intro w1 hS1;have b1:=hS1;have KH1:=yB KHr b1;have RC1:=yB RC b1;have RL1:=yH (RL.out.below b1);have RB1:=yH (RB.out.below b1);have OO1:=yH (aAf OO.out b1);have KK1:=yH (KK.out.trans (pAD b1));have KW:=yH ((pAD (S:=fun k=>k=ch∨base≤k) BW.out).trans (KK1.out.mono (fun k _ h=>h.imp id (fun q=>q.1))));clear b1 hS1 CF KHr RC RL RB OO KK;have HR0:=HRr.out
 cases hfs:aAx ps σ.ls σ.l x.ow x.ow 1099511627776 sn (agO σ.l x.sl x.bu x.nu x.de)with
 | none=>
  rw[hfs]at HR0;simp only[Option.getD_none,Prod.mk.injEq]at HR0;obtain⟨h1,h2⟩:=HR0;subst h1 h2;have YES:Hid (aB1 ps x.ow x.sl x.bu x.nu x.de 64 ⟨ls,l,[],x.lf⟩=(0,σ)):=yH (by rw[HE.out];exact aPs SI.out _ (by rw[HSN.out];exact hfs));clear hfs;have CL:=yH (aOm OO1.out);have HLE:=yH (show w.heap.size≤W.heap.size by have:=HWS.out;omega);go_wp2_with fail;refine CL.out.mono ?_;rintro e w2 ⟨v,rfl,hv,_,rfl⟩;obtain⟨a,c,rfl,_,_,_,_⟩:=hv.look;have HV:=yH (hv.base HLE.out);clear hv CL;go_wp2_with fail;go_ret2;exact .inr ⟨_,a,c,σ,YES.out,rfl,by rw[HSN.out];exact RC1.out,RL1.out,RB1.out,HV.out,KW.out⟩
 | some sk=>
  obtain⟨s0,k0⟩:=sk;rw[hfs]at HR0;simp only[Option.getD_some,Prod.mk.injEq]at HR0;obtain⟨h1,h2⟩:=HR0;subst h1 h2;obtain⟨k1,k2,ok,o,ho,_,_,u1,u2,hnx,hnext⟩:=SI.out.step (s:=s0) (k:=k0) (by rw[HSN.out];exact hfs);rw[HSN.out]at u2 hnx;have HFS:=yH hfs;have HOK:=yH ok;have HO:=yH ho;have HNX:=yH hnext;have HSQ:=yH (show 0≤o.se∧o.se≤18446744073709551615 from by have h1:=SI.out.binv.bd o (aCc ho).1;have h2:=SI.out.binv.n2;omega);rw[(aCc ho).2]at HSQ;have z5:decide (k0<1)=false:=by simp;omega
  have HPOS:=yH (show ¬sn≤0 by omega);clear hfs ok ho hnext
  by_cases hfull:σ.fs.length=64
  ·have z6:((σ.fs.length:Int)==64)=true:=by simp;omega
   have NO:Hid ((aB1 ps x.ow x.sl x.bu x.nu x.de 64 ⟨ls,l,[],x.lf⟩).1=13):=yH (by
    rw[HE.out,aF7 (by rw[HSN.out];exact HPOS.out) (by rw[HSN.out];exact HFS.out) hfull])
   clear hfull;go_wp2_with fail;go_ret2;exact .inl ⟨NO.out,rfl,KW.out⟩
  have z6:((σ.fs.length:Int)==64)=false:=by simp;omega
  have hl64:σ.fs.length+1≤64:=by have:=SI.out.len;omega
  have HL64:=yH hl64;have NX2:=yH (HNX.out hfull);have CDo:=yH (aJq HD RL1.out SI.out.linv RB1.out SI.out.binv s0 x.ow x.ow k0 HSQ.out HX.out.ow HX.out.ow ⟨by omega,by omega⟩);clear hfull hl64
  have LTS:=yH (show ∀k,(k=G∨k=M∨Foot gb vb k)→k<w1.heap.size from fun k h=>by
   rcases h with rfl|rfl|h
   ·exact RL1.out.blk.lt
   ·exact RL1.out.map.lt
   exact(RB1.out.lt h).2)
  have CDo:=yH (fun w' (h:Below w1.heap.size w1 w')=>(show Calls Tryz.prog 235 #[.agg #[.pointer (some ⟨G,0,none⟩),.pointer (some ⟨gb,0,none⟩)],.int .u64 s0,.int .u8 x.ow,.int .u8 x.ow,.int .i64 k0] w' fun e w''=>e=.returned (.tuple #[.agg #[.int .u64 s0,.int .u8 x.ow,.int .u8 x.ow,.int .i64 k0,.int .i64 (upN (k0*o.nu) o.de)],.int .i64 0])∧
    DoT w1 base G M gb ps (aCx ps σ.ls o x.ow x.ow k0 (upN (k0*o.nu) o.de)) (aDu σ.l s0 k0) N vb w''∧Keep (fun k=>k=G∨k=M∨Foot gb vb k) w' w'' from by
   refine(aJq HD (RL1.out.below h) SI.out.linv (RB1.out.below h) SI.out.binv s0 x.ow x.ow k0 HSQ.out HX.out.ow HX.out.ow ⟨by omega,by omega⟩).mono ?_;rintro e w'' (⟨hno,_⟩|⟨_,o',y',vb',ho',hy',rfl,hRL',hRB',kk,hmv⟩)
   ·exact absurd HOK.out hno
   rw[HO.out]at ho'
   cases ho'
   subst hy';exact⟨rfl,⟨vb',hRL',hRB',fun b hb=>(hmv b hb).imp id (fun q=>Nat.le_trans h.size q)⟩,kk⟩))
  obtain⟨y,hy⟩:∃y,upN (k0*o.nu) o.de=y:=⟨_,rfl⟩;rw[hy]at CDo u1 u2 hnx;rw[hnx]at NX2
  have HE2:Hid (aB1 ps x.ow x.sl x.bu x.nu x.de 64 ⟨ls,l,[],x.lf⟩=aB1 ps x.ow x.sl x.bu x.nu x.de (64 - (σ.fs.length+1)) ⟨aCx ps σ.ls o x.ow x.ow k0 y,aDu σ.l s0 k0,σ.fs++[⟨s0,k0,y⟩],sn - y⟩):=yH (by
   rw[HE.out,←hnx,←aIo (by rw[HSN.out];exact HPOS.out) (by rw[HSN.out];exact HFS.out) (by have:=HL64.out;omega)];congr 1;have:=HL64.out;omega)
  obtain⟨LS,hLS⟩:∃LS,aCx ps σ.ls o x.ow x.ow k0 y=LS:=⟨_,rfl⟩;obtain⟨TL,hTL⟩:∃TL,aDu σ.l s0 k0=TL:=⟨_,rfl⟩;rw[hLS,hTL]at CDo HE2 NX2;clear hnx hy hLS hTL HNX HE HFS HOK HO
  go_upto_region 6 with fail
  refine aA5 (by kernel_rfl) (fun g:Nat=>[(.agg #[.pointer (some ⟨G,0,none⟩),.pointer (some ⟨gb,0,none⟩)]),(.int .u64 s0),(.pointer (some ⟨ch,0,none⟩)),(.pointer (some ⟨ch,0,none⟩)),(.pointer (some ⟨ch,1,none⟩)),(.int .u8 x.ow),(.pointer (some ⟨ch,0,none⟩)),(.pointer (some ⟨ch,0,none⟩)),(.pointer (some ⟨ch,1,none⟩)),(.int .u8 x.ow),(.int .i64 k0),(.tuple #[.agg #[.int .u64 s0,.int .u8 x.ow,.int .u8 x.ow,.int .i64 k0,.int .i64 y],.int .i64 0]),(.tuple #[.agg #[.int .u64 s0,.int .u8 x.ow,.int .u8 x.ow,.int .i64 k0,.int .i64 y],.int .i64 0]),(.agg #[.int .u64 s0,.int .u8 x.ow,.int .u8 x.ow,.int .i64 k0,.int .i64 y]),(.int .i64 0),(.pointer (some ⟨g,0,none⟩)),undef,(.int .i64 0)])
   (DoI w1 base G M gb ps LS TL N vb #[.int .u64 s0,.int .u8 x.ow,.int .u8 x.ow,.int .i64 k0,.int .i64 y]) (by kernel_rfl) 0 DoI.start ?_
  intro AF hAF;simp only[yG,List.append_eq,List.cons_append,List.nil_append,puts,Act.put,yA,yC,yF,yD,yE]at hAF;have hAF2:_=AF:=funext hAF;subst hAF2;clear hAF;refine⟨?_,?_⟩
  ·simp only[yG,List.append_eq,List.cons_append,List.nil_append,aFm];refine⟨?_,?_,?_,?_,?_,?_,?_,?_,?_,?_,?_,?_,?_,?_,?_,?_,?_,?_,trivial⟩
   ·intro g D w' hD hW hC hI;refine⟨g,fun _ _ _=>rfl,?_⟩;with_reducible refine yO rfl ?_
    have hS:=hI.1 (aAd hC hD 11 (by kernel_rfl));have hk:=KH1.out.below hS KH1.out.lt;have e0:=hk.cell 0;have e1:=hk.cell 1;simp at e0 e1;clear hk;have HS:=yH (hI.keep 0 rfl);clear hI hC hW hD hS;go_wp2_with fail;all_goals first|exact HS|exact⟨rfl,HS⟩|rfl
   ·intro g D w' hD hW hC hI;refine⟨g,fun _ _ _=>rfl,?_⟩;with_reducible refine yO rfl ?_
    have HS:=yH (hI.keep 1 rfl);clear hI hC hW hD;go_wp2_with fail;all_goals first|exact HS|exact⟨rfl,HS⟩|rfl
   ·intro g D w' hD hW hC hI;refine⟨g,fun _ _ _=>rfl,?_⟩;with_reducible refine yO rfl ?_
    have HS:=yH (hI.keep 2 rfl);clear hI hC hW hD;go_wp2_with fail;all_goals first|exact HS|exact⟨rfl,HS⟩|rfl
   ·intro g D w' hD hW hC hI;refine⟨g,fun _ _ _=>rfl,?_⟩;with_reducible refine yO rfl ?_
    have hS:=hI.1 (aAd hC hD 11 (by kernel_rfl));have hk:=RC1.out.below hS RC1.out.lt;have e1:=hk.cell 1;simp at e1;clear hk;have HS:=yH (hI.keep 3 rfl);clear hI hC hW hD hS;go_wp2_with fail;all_goals first|exact HS|exact⟨rfl,HS⟩|rfl
   ·intro g D w' hD hW hC hI;refine⟨g,fun _ _ _=>rfl,?_⟩;with_reducible refine yO rfl ?_
    have hS:=hI.1 (aAd hC hD 11 (by kernel_rfl));have hk:=RC1.out.below hS RC1.out.lt;have e1:=hk.cell 1;simp at e1;clear hk;have HS:=yH (hI.keep 4 rfl);clear hI hC hW hD hS;go_wp2_with fail;all_goals first|exact HS|exact⟨rfl,HS⟩|rfl
   ·intro g D w' hD hW hC hI;refine⟨g,fun _ _ _=>rfl,?_⟩;with_reducible refine yO rfl ?_
    have hS:=hI.1 (aAd hC hD 11 (by kernel_rfl));have hk:=RC1.out.below hS RC1.out.lt;have e1:=hk.cell 1;simp at e1;clear hk;have HS:=yH (hI.keep 5 rfl);clear hI hC hW hD hS;go_wp2_with fail;all_goals first|exact HS|exact⟨rfl,HS⟩|rfl
   ·intro g D w' hD hW hC hI;refine⟨g,fun _ _ _=>rfl,?_⟩;with_reducible refine yO rfl ?_
    have HS:=yH (hI.keep 6 rfl);clear hI hC hW hD;go_wp2_with fail;all_goals first|exact HS|exact⟨rfl,HS⟩|rfl
   ·intro g D w' hD hW hC hI;refine⟨g,fun _ _ _=>rfl,?_⟩;with_reducible refine yO rfl ?_
    have hS:=hI.1 (aAd hC hD 11 (by kernel_rfl));have hk:=RC1.out.below hS RC1.out.lt;have e1:=hk.cell 1;simp at e1;clear hk;have HS:=yH (hI.keep 7 rfl);clear hI hC hW hD hS;go_wp2_with fail;all_goals first|exact HS|exact⟨rfl,HS⟩|rfl
   ·intro g D w' hD hW hC hI;refine⟨g,fun _ _ _=>rfl,?_⟩;with_reducible refine yO rfl ?_
    have hS:=hI.1 (aAd hC hD 11 (by kernel_rfl));have hk:=RC1.out.below hS RC1.out.lt;have e1:=hk.cell 1;simp at e1;clear hk;have HS:=yH (hI.keep 8 rfl);clear hI hC hW hD hS;go_wp2_with fail;all_goals first|exact HS|exact⟨rfl,HS⟩|rfl
   ·intro g D w' hD hW hC hI;refine⟨g,fun _ _ _=>rfl,?_⟩;with_reducible refine yO rfl ?_
    have hS:=hI.1 (aAd hC hD 11 (by kernel_rfl));have hk:=RC1.out.below hS RC1.out.lt;have e1:=hk.cell 1;simp at e1;clear hk;have HS:=yH (hI.keep 9 rfl);clear hI hC hW hD hS;go_wp2_with fail;all_goals first|exact HS|exact⟨rfl,HS⟩|rfl
   ·intro g D w' hD hW hC hI;refine⟨g,fun _ _ _=>rfl,?_⟩;with_reducible refine yO rfl ?_
    have HS:=yH (hI.keep 10 rfl);clear hI hC hW hD;go_wp2_with fail;all_goals first|exact HS|exact⟨rfl,HS⟩|rfl
   ·intro g D w' hD hW hC hI;refine⟨g,fun _ _ _=>rfl,?_⟩;with_reducible refine yO rfl ?_
    have h16:=aAd hC hD 16 (by kernel_rfl);have HI:=yH hI;have HC:=yH (CDo.out w' (hI.1 hD));have HB:=yH (And.intro hD h16);clear hI hC hW hD h16;go_wp2_with fail;refine HC.out.mono ?_;rintro e w'' ⟨rfl,ht,hk⟩;exact⟨rfl,HI.out.call HB.out.1 HB.out.2 LTS.out ht hk⟩
   ·intro g D w' hD hW hC hI;refine⟨g,fun _ _ _=>rfl,?_⟩;with_reducible refine yO rfl ?_
    have HS:=yH (hI.keep 12 rfl);clear hI hC hW hD;go_wp2_with fail;all_goals first|exact HS|exact⟨rfl,HS⟩|rfl
   ·intro g D w' hD hW hC hI;refine⟨g,fun _ _ _=>rfl,?_⟩;with_reducible refine yO rfl ?_
    have HS:=yH (hI.keep 13 rfl);clear hI hC hW hD;go_wp2_with fail;all_goals first|exact HS|exact⟨rfl,HS⟩|rfl
   ·intro g D w' hD hW hC hI;refine⟨g,fun _ _ _=>rfl,?_⟩;with_reducible refine yO rfl ?_
    have HS:=yH (hI.keep 14 rfl);clear hI hC hW hD;go_wp2_with fail;all_goals first|exact HS|exact⟨rfl,HS⟩|rfl
   ·intro g D w' hD hW hC hI;have h16:=aAd hC hD 16 (by kernel_rfl);refine⟨w'.heap.size,fun j hj hjD=>?_,?_⟩
    ·rcases(by have:j<18:=hj;omega:j=0∨j=1∨j=2∨j=3∨j=4∨j=5∨j=6∨j=7∨j=8∨j=9∨j=10∨j=11∨j=12∨j=13∨j=14∨j=15∨j=16∨j=17)with rfl|rfl|rfl|rfl|rfl|rfl|rfl|rfl|rfl|rfl|rfl|rfl|rfl|rfl|rfl|rfl|rfl|rfl
     all_goals first|rfl|exact absurd (hD.symm.trans hjD) (by decide)
    with_reducible refine yO rfl ?_
    have HS:=yH (hI.lay h16);clear hI hC hW hD h16;go_wp2_with fail;all_goals first|exact HS|exact⟨rfl,HS⟩|rfl
   ·intro g D w' hD hW hC hI;refine⟨g,fun _ _ _=>rfl,?_⟩;with_reducible refine yO rfl ?_
    have h11:D 11=true:=aA1 hC hW (by kernel_rfl);have h15:D 15=true:=aA1 hC hW (by kernel_rfl);have HS:=yH (hI.fill h11 h15 hD LTS.out);have hk:=(hI.2.2.2 h15).2.1 hD;refine wp_store_row 241 (.tmp 10) (.tmp 43) rfl g #[.int .u64 s0,.int .u8 x.ow,.int .u8 x.ow,.int .i64 k0,.int .i64 y] rfl rfl 241 _ hk (by kernel_rfl) rfl (by simp[Value.oneCell']) ⟨rfl,?_⟩;exact HS.out
   intro g D w' hD hW hC hI;refine⟨g,fun _ _ _=>rfl,?_⟩;with_reducible refine yO rfl ?_
   have HS:=yH (hI.keep 17 rfl);clear hI hC hW hD;go_wp2_with fail;all_goals first|exact HS|exact⟨rfl,HS⟩|rfl
  intro g D w3 hall hI;obtain⟨_,a2,a3,a4⟩:=hI;obtain⟨⟨vb2,t1,t2,t3⟩,kk⟩:=a2 (hall 11 (by decide));obtain⟨g1,_,g2⟩:=a4 (hall 15 (by decide));have KF:=yH (g2 (hall 16 (by decide)));have hWS:=HWS.out;have hge:=GE.out;have hsz:=KK1.out.size
  have hvb:∀j,j<W.heap.size→(j=G∨j=M∨Foot gb vb j)→base≤j∧j<w.heap.size:=by
   intro j hj h;rcases h with h|h|h|h
   ·omega
   ·omega
   ·omega
   have h1:=VB.out j h;have h2:=(RB1.out.lt (b:=j) (.inr h)).1;omega
  have RC3:=yH (RC1.out.keep kk (fun h=>by have:=hvb _ (by omega) h;omega))
  have OO3:=yH (aBq OO1.out kk (fun b hb h=>by
   have h1:=(aAe OO1.out hb).1;rcases h with h|h|h|h
   ·omega
   ·omega
   ·omega
   exact aHv OO1.out RB1.out.row (by decide) b hb h))
  have KK3:=yH (KK1.out.trans_new kk (fun j hj h=>.inr (hvb j hj h)))
  have VB3:=yH (show ∀b,vb2.ownBlock=some b→b<w.heap.size∨W.heap.size≤b from fun j hj=>by
   rcases t3 j hj with h|h
   ·exact VB.out j h
   exact .inr (by omega))
  have RL3:=yH t1;have RB3:=yH t2;have GO:=yH (show ∀b,(Value.slice ao σ.fs.length cap).ownBlock=some b→b<g∧W.heap.size≤b from fun b hb=>by have:=aAe OO1.out hb;omega);clear hWS hge hsz hvb t1 t2 t3 a2 a3 a4 kk g1 g2 hall RL1 RB1 OO1 KK1 RC1 KH1 VB CDo LTS;have f0:=KF.out.cell 0;have f1:=KF.out.cell 1;have f2:=KF.out.cell 2;have f3:=KF.out.cell 3;have f4:=KF.out.cell 4;simp at f0 f1 f2 f3 f4;have hb5:=KK3.out.size;go_wp2_with (at_builtin;refine aAy _ rfl (.tmp 45) (.tmp 47) 235 241 rfl Tryz.underlying235 info_flp12 rfl (by decide) (by decide) W.heap.size _ σ.fs.length _ rfl (OO3.out.alloc _) w3.heap.size 1 [.int .u64 s0,.int .u8 x.ow,.int .u8 x.ow,.int .i64 k0,.int .i64 y] rfl rfl (Blk.new _ _ _) (by simp[Value.oneCell']) (by have:=HL64.out;omega) (by simp;omega) ?_);intro v2 w4 ho2 hg2;have KG:Keep (fun k=>(Value.slice ao σ.fs.length cap).ownBlock=some k) w3 w4:=((Keep.refl _ w3).alloc _).grown hg2 (fun k hk=>.inl hk);have RL4:=yH (RL3.out.keep KG (fun h=>by have:=(aAe OO3.out h).1;have:=GE.out;have:=HWS.out;omega) (fun h=>by have:=(aAe OO3.out h).1;have:=GE.out;have:=HWS.out;omega));have RB4:=yH (RB3.out.keep KG (fun h=>by have:=(aAe OO3.out h).1;have:=GE.out;have:=HWS.out;omega) (fun b hb h=>aHv OO3.out RB3.out.row (by decide) b h hb));have KK4:=yH (KK3.out.trans_new KG (fun j hj h=>by have:=(aAe OO3.out h).1;omega));have RC4:=yH (RC3.out.keep KG (fun h=>by have:=(aAe OO3.out h).1;have:=GE.out;have:=HWS.out;omega));have KF4:=yH (KF.out.keep KG (fun h=>by have:=GO.out _ h;omega));have O4:=yH (show w4.ownsRow W.heap.size 241 5 v2 (σ.fs++[(⟨s0,k0,y⟩:Fl)]).length (aCf x.ow x.ow (σ.fs++[(⟨s0,k0,y⟩:Fl)]))from by rw[aKz];simpa [Fl.vals]using ho2);obtain⟨ao2,cap2,hv2,_⟩:=aAg O4.out;subst hv2;clear KG ho2 hg2 f0 f1 f2 f3 f4 hb5 RL3 RB3 OO3 KK3 RC3 KF;have c4:=RC4.out.cell 4;have cf:=RC4.out.frozen 4;have f4:=KF4.out.cell 4;simp at c4 f4;have kk:Keep (fun k=>k=ch) w4 (w4.setCell ⟨ch,4,none⟩ (.int .i64 (sn - y))).drew:=(Keep.setCell (S:=fun k=>k=ch) (Keep.refl _ _) (p:=⟨ch,4,none⟩) (.inl rfl) _).drew;have RC5:Hid (Blk (w4.setCell ⟨ch,4,none⟩ (.int .i64 (sn - y))).drew ch #[.int .u64 x.se,.int .u8 x.ow,.int .u8 x.sl,.int .u8 x.bu,.int .i64 (sn - y),.int .i64 x.nu,.int .i64 x.de] 294):=yH (RC4.out.set 4 _);have RL5:=yH (RL4.out.keep kk (by have:=GE.out;omega) (by have:=GE.out;omega));have RB5:=yH (RB4.out.keep kk (by have:=GE.out;omega) (fun b hb e=>by have h1:=(RB4.out.lt (.inr hb)).1;have:=GE.out;omega));have KK5:=yH (KK4.out.trans (kk.mono (fun k _ h=>.inl h)));have O5:=yH (aBq O4.out kk (fun b hb e=>by have h1:=(aAe O4.out hb).1;have:=GE.out;have:=HWS.out;omega));clear kk RL4 RB4 KK4 O4;go_wp2_with fail
  go_region
  all_goals
   go_wp2_with fail;exact⟨⟨⟨LS,TL,σ.fs++[⟨s0,k0,y⟩],sn - y⟩,_,RC5.out,RL5.out,RB5.out,VB3.out,O5.out,NX2.out,KK5.out,yH (by rw[HE2.out];simp)⟩,by simp[slN];have:=HL64.out;omega⟩
theorem aBp{P:Program}{fn:Func}{p u x y:Tmp}{ty:TypeId}(h:fn.results=#[.cell p ty,.tmp u,.tmp x,.tmp y])(tmps:Array Value)(w:World)(g:Nat)(t:TypeId)(cs:Array Value)(d:TypeDesc)(v v2 v3:Value)
  (hp:tmps.getD p undef=.pointer (some ⟨g,0,none⟩))(hg:w.heap[g]? = some (.cells cs t (0,0)))
  (hu:P.underlying ty=some d)(hd:(match d with | .struct _ | .array _ _=>true|_=>false)=true)(hi:(P.info? ty).map (·.size)=some cs.size)(hv:tmps.getD u undef=v)(hv2:tmps.getD x undef=v2)(hv3:tmps.getD y undef=v3):
  (results fn tmps).run P w=.ok (.tuple #[.agg cs,v,v2,v3]) w:=by
 have h1:=results_cell_row (P:=P) (fn:={ fn with results:=#[.cell p ty] }) rfl tmps w g t cs (0,0) d hp hg hu hd hi
 have h2:((asAddr (tmps.getD p undef)).run P w).andThen (fun a w₁=>(loadVar ty a).run P w₁)=.ok (.agg cs) w:=by
  simpa [results,Sem.run_bind,Result.andThen]using h1
 have h3:(results fn tmps).run P w=((asAddr (tmps.getD p undef)).run P w).andThen fun a w₁=>((loadVar ty a).run P w₁).andThen fun v w₂=>.ok (.tuple #[v,tmps.getD u undef,tmps.getD x undef,tmps.getD y undef]) w₂:=by
  simp only[results,h];simp[Sem.run_bind,Result.andThen]
 rw[h3];rw[hp]at h2 ⊢;simp only[asAddr,Sem.run_pure,Result.andThen_ok]at h2 ⊢;rw[h2];simp only[Result.andThen_ok,hv,hv2,hv3]
theorem PB.down12{w:World}{base base' g:Nat}{l:List Of}{N:Int}{vl:Value}(h:PB w base g l N vl)(hb:base'≤base):PB w base' g l N vl:=⟨h.blk,Nat.le_trans hb h.ge,aIz h.row hb⟩
def PlcNo(w:World)(er:Int)(e:Ending)(w':World):Prop:=e=.returned (.tuple #[.agg #[.pointer none,.pointer none],.slice none 0 0,.int .u64 0,.int .i64 er])∧Below w.heap.size w w'
theorem pplc_void{w:World}{a b:Option Addr}(x:Of)(h:∀w',Below w.heap.size w w'→Calls Tryz.prog 240 #[.agg #[.pointer a,.pointer b]] w' fun e w''=>e=.returned (.bool false)∧Below w'.heap.size w' w''):
  Calls Tryz.prog 156 #[.agg #[.pointer a,.pointer b],.agg #[.int .u64 x.se,.int .u8 x.ow,.int .u8 x.sl,.int .u8 x.bu,.int .i64 x.lf,.int .i64 x.nu,.int .i64 x.de]] w (PlcNo w 2):=by
 have b1:=(Below.refl w.heap.size w).alloc yL (.cells #[.pointer a,.pointer b] 80);have b2:=b1.alloc b1.size (.cells #[.int .u64 x.se,.int .u8 x.ow,.int .u8 x.sl,.int .u8 x.bu,.int .i64 x.lf,.int .i64 x.nu,.int .i64 x.de] 75);have b3:=b2.alloc b2.size (.cells #[.pointer none,.pointer none] 80);have b4:=b3.alloc b3.size (.cells #[.int .u64 x.se,.int .u8 x.ow,.int .u8 x.sl,.int .u8 x.bu,.int .i64 x.lf,.int .i64 x.nu,.int .i64 x.de] 294);have KH:=yH ((((Blk.new w #[.pointer a,.pointer b] 80).alloc (.cells #[.int .u64 x.se,.int .u8 x.ow,.int .u8 x.sl,.int .u8 x.bu,.int .i64 x.lf,.int .i64 x.nu,.int .i64 x.de] 75)).alloc (.cells #[.pointer none,.pointer none] 80)).alloc (.cells #[.int .u64 x.se,.int .u8 x.ow,.int .u8 x.sl,.int .u8 x.bu,.int .i64 x.lf,.int .i64 x.nu,.int .i64 x.de] 294));have KR:=yH ((pAB ((w.alloc (.cells #[.pointer a,.pointer b] 80)).alloc (.cells #[.int .u64 x.se,.int .u8 x.ow,.int .u8 x.sl,.int .u8 x.bu,.int .i64 x.lf,.int .i64 x.nu,.int .i64 x.de] 75)) #[.pointer none,.pointer none] 80 (g:=w.heap.size+2) (by simp)).alloc (.cells #[.int .u64 x.se,.int .u8 x.ow,.int .u8 x.sl,.int .u8 x.bu,.int .i64 x.lf,.int .i64 x.nu,.int .i64 x.de] 294));have KC:=yH (pAB (((w.alloc (.cells #[.pointer a,.pointer b] 80)).alloc (.cells #[.int .u64 x.se,.int .u8 x.ow,.int .u8 x.sl,.int .u8 x.bu,.int .i64 x.lf,.int .i64 x.nu,.int .i64 x.de] 75)).alloc (.cells #[.pointer none,.pointer none] 80)) #[.int .u64 x.se,.int .u8 x.ow,.int .u8 x.sl,.int .u8 x.bu,.int .i64 x.lf,.int .i64 x.nu,.int .i64 x.de] 294 (g:=w.heap.size+3) (by simp));have B:=yH b4;have CW:=yH (aTp x (fun w' k=>h w' (andB b4 k)));clear b1 b2 b3 b4 h;generalize hW:((((w.alloc (.cells #[.pointer a,.pointer b] 80)).alloc (.cells #[.int .u64 x.se,.int .u8 x.ow,.int .u8 x.sl,.int .u8 x.bu,.int .i64 x.lf,.int .i64 x.nu,.int .i64 x.de] 75)).alloc (.cells #[.pointer none,.pointer none] 80)).alloc (.cells #[.int .u64 x.se,.int .u8 x.ow,.int .u8 x.sl,.int .u8 x.bu,.int .i64 x.lf,.int .i64 x.nu,.int .i64 x.de] 294))=W at *;have HW:=yH hW;clear hW;have h0:=KH.out.cell 0;have h1:=KH.out.cell 1;have c0:=KC.out.cell 0;have c1:=KC.out.cell 1;have c2:=KC.out.cell 2;have c3:=KC.out.cell 3;have c4:=KC.out.cell 4;have c5:=KC.out.cell 5;have c6:=KC.out.cell 6;simp at h0 h1 c0 c1 c2 c3 c4 c5 c6;go_enter Tryz.func156,Tryz.ntmps156
 go_upto_region 2 with fail
 rw[HW.out];go_wp2_with fail;refine CW.out.mono ?_;rintro e w1 ⟨rfl,b1⟩;have KR1:=yB KR b1;have B1:=yT B b1;clear b1 h0 h1 c0 c1 c2 c3 c4 c5 c6 KH KR KC B CW;have r0:=KR1.out.cell 0;have r1:=KR1.out.cell 1;simp at r0 r1;go_wp2_with (refine aAa rfl 80 (.tmp 4) (.tmp 15) rfl (w.heap.size+2) #[.pointer none,.pointer none] rfl rfl 80 _ KR1.out.out (by kernel_rfl) rfl (by simp[Value.oneCell']) ?_);refine bodyPost_ret (v:=.tuple #[.agg #[.pointer none,.pointer none],.slice none 0 0,.int .u64 0,.int .i64 2]) (aBp rfl _ _ (w.heap.size+2) 80 #[.pointer none,.pointer none] _ _ _ _ rfl (setRow_heap _ (w.heap.size+2) _ _ _ (0,0) KR1.out.out) Tryz.underlying80 rfl (by kernel_rfl) rfl rfl rfl) rfl ?_;exact⟨rfl,below_setRow B1.out (by omega) _⟩
def PPlc(w:World)(ps:List Int)(ls:List Ln)(l:List Of)(N:Int)(x:Of)(e:Ending)(w':World):Prop:=
 (∃er:Int,er≠0∧(aBz ps ls l N x.ow x.sl x.bu x.lf x.nu x.de).1=er∧PlcNo w er e w')∨
 (∃(G M gb:Nat) (vb:Value) (a:Option Addr) (c:Nat) (σ:SwS) (N' sq:Int),aBz ps ls l N x.ow x.sl x.bu x.lf x.nu x.de=(0,σ,N',sq)∧e=.returned (.tuple #[.agg #[.pointer (some ⟨G,0,none⟩),.pointer (some ⟨gb,0,none⟩)],.slice a σ.fs.length c,.int .u64 sq,.int .i64 0])∧LedM w' G M ps σ.ls∧PB w' w.heap.size gb σ.l N' vb∧
  aBj w' w.heap.size 241 5 (.slice a σ.fs.length c) σ.fs.length (aCf x.ow x.ow σ.fs)∧w.heap.size≤G∧w.heap.size≤M∧Below w.heap.size w w')
theorem aRr{ps:List Int}{ls:List Ln}{l:List Of}{N:Int}{x:Of}{er:Int}(h:aH4 ps x=er)(he:er≠0):(aBz ps ls l N x.ow x.sl x.bu x.lf x.nu x.de).1=er:=by
 unfold aH4 at h;unfold aBz
 by_cases h1:x.may
 ·have h1':(Of.mk 0 x.ow x.sl x.bu x.lf x.nu x.de).may:=h1;rw[if_neg (fun q=>q h1)]at h;rw[if_neg (fun q=>q h1')]
  by_cases h2:x.ow∉ps
  ·rw[if_pos h2]at h ⊢;exact h
  rw[if_neg h2]at h;exact absurd h.symm he
 have h1':¬(Of.mk 0 x.ow x.sl x.bu x.lf x.nu x.de).may:=h1;rw[if_pos h1]at h;rw[if_pos h1'];exact h
theorem aRs{ps:List Int}{ls:List Ln}{l:List Of}{N:Int}{x:Of}(h:aH4 ps x=0):x.may∧aBz ps ls l N x.ow x.sl x.bu x.lf x.nu x.de=aHr N x.ow x.sl x.bu x.nu x.de (aB1 ps x.ow x.sl x.bu x.nu x.de 64 ⟨ls,l,[],x.lf⟩):=by
 unfold aH4 at h;unfold aBz
 by_cases h1:x.may
 ·have h1':(Of.mk 0 x.ow x.sl x.bu x.lf x.nu x.de).may:=h1;rw[if_neg (fun q=>q h1)]at h;rw[if_neg (fun q=>q h1')]
  by_cases h2:x.ow∉ps
  ·rw[if_pos h2]at h;exact absurd h (by decide)
  rw[if_neg h2];exact⟨h1,rfl⟩
 rw[if_pos h1]at h;exact absurd h (by decide)
theorem pplc_any(HMy:aCh)(HD:aD1)(HCp:aDt){w:World}{base G M gb:Nat}{ps:List Int}{ls:List Ln}{l:List Of}{N:Int}{vb:Value}(hL:LedM w G M ps ls)(hI:LInv ps ls)(hP:PB w base gb l N vb)(hJ:BInv l N)(x:Of)(hx:x.Fits):
  Calls Tryz.prog 156 #[.agg #[.pointer (some ⟨G,0,none⟩),.pointer (some ⟨gb,0,none⟩)],.agg #[.int .u64 x.se,.int .u8 x.ow,.int .u8 x.sl,.int .u8 x.bu,.int .i64 x.lf,.int .i64 x.nu,.int .i64 x.de]] w (PPlc w ps ls l N x):=by
 have b1:=(Below.refl w.heap.size w).alloc yL (.cells #[.pointer (some ⟨G,0,none⟩),.pointer (some ⟨gb,0,none⟩)] 80);have b2:=b1.alloc b1.size (.cells #[.int .u64 x.se,.int .u8 x.ow,.int .u8 x.sl,.int .u8 x.bu,.int .i64 x.lf,.int .i64 x.nu,.int .i64 x.de] 75);have b3:=b2.alloc b2.size (.cells #[.pointer none,.pointer none] 80);have b4:=b3.alloc b3.size (.cells #[.int .u64 x.se,.int .u8 x.ow,.int .u8 x.sl,.int .u8 x.bu,.int .i64 x.lf,.int .i64 x.nu,.int .i64 x.de] 294);have KH:=yH ((((Blk.new w #[.pointer (some ⟨G,0,none⟩),.pointer (some ⟨gb,0,none⟩)] 80).alloc (.cells #[.int .u64 x.se,.int .u8 x.ow,.int .u8 x.sl,.int .u8 x.bu,.int .i64 x.lf,.int .i64 x.nu,.int .i64 x.de] 75)).alloc (.cells #[.pointer none,.pointer none] 80)).alloc (.cells #[.int .u64 x.se,.int .u8 x.ow,.int .u8 x.sl,.int .u8 x.bu,.int .i64 x.lf,.int .i64 x.nu,.int .i64 x.de] 294));have KR:=yH ((pAB ((w.alloc (.cells #[.pointer (some ⟨G,0,none⟩),.pointer (some ⟨gb,0,none⟩)] 80)).alloc (.cells #[.int .u64 x.se,.int .u8 x.ow,.int .u8 x.sl,.int .u8 x.bu,.int .i64 x.lf,.int .i64 x.nu,.int .i64 x.de] 75)) #[.pointer none,.pointer none] 80 (g:=w.heap.size+2) (by simp)).alloc (.cells #[.int .u64 x.se,.int .u8 x.ow,.int .u8 x.sl,.int .u8 x.bu,.int .i64 x.lf,.int .i64 x.nu,.int .i64 x.de] 294));have KC:=yH (pAB (((w.alloc (.cells #[.pointer (some ⟨G,0,none⟩),.pointer (some ⟨gb,0,none⟩)] 80)).alloc (.cells #[.int .u64 x.se,.int .u8 x.ow,.int .u8 x.sl,.int .u8 x.bu,.int .i64 x.lf,.int .i64 x.nu,.int .i64 x.de] 75)).alloc (.cells #[.pointer none,.pointer none] 80)) #[.int .u64 x.se,.int .u8 x.ow,.int .u8 x.sl,.int .u8 x.bu,.int .i64 x.lf,.int .i64 x.nu,.int .i64 x.de] 294 (g:=w.heap.size+3) (by simp));have B:=yH b4;have CW:=yH (cwrong_any HD (hL.below b4) hI (hP.below b4) hJ x hx);have HL:=yH (hL.below b4);have HP:=yH (hP.below b4);have II:=yH hI;have JJ:=yH hJ;have HX:=yH hx;have HSZ:Hid (((((w.alloc (.cells #[.pointer (some ⟨G,0,none⟩),.pointer (some ⟨gb,0,none⟩)] 80)).alloc (.cells #[.int .u64 x.se,.int .u8 x.ow,.int .u8 x.sl,.int .u8 x.bu,.int .i64 x.lf,.int .i64 x.nu,.int .i64 x.de] 75)).alloc (.cells #[.pointer none,.pointer none] 80)).alloc (.cells #[.int .u64 x.se,.int .u8 x.ow,.int .u8 x.sl,.int .u8 x.bu,.int .i64 x.lf,.int .i64 x.nu,.int .i64 x.de] 294)).heap.size=w.heap.size+4):=yH (by simp);obtain⟨R,hR⟩:∃R,aH4 ps x=R:=⟨_,rfl⟩;rw[hR]at CW;have HR:=yH hR;clear b1 b2 b3 b4 hL hI hP hJ hx hR;generalize hW:((((w.alloc (.cells #[.pointer (some ⟨G,0,none⟩),.pointer (some ⟨gb,0,none⟩)] 80)).alloc (.cells #[.int .u64 x.se,.int .u8 x.ow,.int .u8 x.sl,.int .u8 x.bu,.int .i64 x.lf,.int .i64 x.nu,.int .i64 x.de] 75)).alloc (.cells #[.pointer none,.pointer none] 80)).alloc (.cells #[.int .u64 x.se,.int .u8 x.ow,.int .u8 x.sl,.int .u8 x.bu,.int .i64 x.lf,.int .i64 x.nu,.int .i64 x.de] 294))=W at *;have HW:=yH hW;clear hW;have h0:=KH.out.cell 0;have h1:=KH.out.cell 1;have c0:=KC.out.cell 0;have c1:=KC.out.cell 1;have c2:=KC.out.cell 2;have c3:=KC.out.cell 3;have c4:=KC.out.cell 4;have c5:=KC.out.cell 5;have c6:=KC.out.cell 6;simp at h0 h1 c0 c1 c2 c3 c4 c5 c6;go_enter Tryz.func156,Tryz.ntmps156
 go_upto_region 2 with fail
 rw[HW.out];go_wp2_with fail;refine CW.out.mono ?_;rintro e w1 ⟨rfl,b1⟩;have KH1:=yB KH b1;have KR1:=yB KR b1;have KC1:=yB KC b1;have L1:=yH (HL.out.below b1);have P1:=yH (HP.out.below b1);have B1:=yT B b1;have SZ1:=yH (show w.heap.size+4≤w1.heap.size by have:=HSZ.out;have:=b1.size;omega);clear b1 h0 h1 c0 c1 c2 c3 c4 c5 c6 KH KR KC B CW HL HP
 by_cases hz:R=0
 rotate_left
 ·have q0:(R != 0)=true:=by simpa using hz
  have NO:=yH (aRr (ls:=ls) (l:=l) (N:=N) HR.out hz);have HZ:=yH hz;clear hz KH1 KC1 L1 P1;have r0:=KR1.out.cell 0;have r1:=KR1.out.cell 1;simp at r0 r1;go_wp2_with (refine aAa rfl 80 (.tmp 4) (.tmp 15) rfl (w.heap.size+2) #[.pointer none,.pointer none] rfl rfl 80 _ KR1.out.out (by kernel_rfl) rfl (by simp[Value.oneCell']) ?_);refine bodyPost_ret (v:=.tuple #[.agg #[.pointer none,.pointer none],.slice none 0 0,.int .u64 0,.int .i64 R]) (aBp rfl _ _ (w.heap.size+2) 80 #[.pointer none,.pointer none] _ _ _ _ rfl (setRow_heap _ (w.heap.size+2) _ _ _ (0,0) KR1.out.out) Tryz.underlying80 rfl (by kernel_rfl) rfl rfl rfl) rfl ?_;exact .inl ⟨R,HZ.out,NO.out,rfl,below_setRow B1.out (by omega) _⟩
 subst hz;obtain⟨hmay,heq⟩:=aRs (ls:=ls) (l:=l) (N:=N) HR.out;have MAY:=yH hmay;have EQ:=yH heq;clear hmay heq;have CC:=yH (HCp L1.out II.out P1.out JJ.out);have h0:=KH1.out.cell 0;have h1:=KH1.out.cell 1;simp at h0 h1;go_wp2_with fail;refine CC.out.mono ?_;rintro e w2 ⟨G1,M1,gb1,vb1,rfl,hL1,hP1,hg1,hm1,b2⟩;have GE:=yH (show w1.heap.size≤G1∧w1.heap.size≤M1∧w.heap.size+4≤w1.heap.size∧w1.heap.size≤w2.heap.size∧w1.heap.size≤gb1 from⟨hg1,hm1,SZ1.out,b2.size,hP1.ge⟩);have KR2:=yB KR1 b2;have KC2:=yB KC1 b2;have B2:=yT B1 b2;have L2:=yH hL1;have P2:=yH hP1;clear hL1 hP1 hg1 hm1 b2 h0 h1 CC KH1 L1 P1 KR1 KC1 B1 SZ1
 go_upto_region 6 with(refine aAa rfl 80 (.tmp 4) (.tmp 18) rfl (w.heap.size+2) #[.pointer (some ⟨G1,0,none⟩),.pointer (some ⟨gb1,0,none⟩)] rfl rfl 80 _ KR2.out.out (by kernel_rfl) rfl (by simp[Value.oneCell']) ?_)
 have kA:=aAc (w:=w2) (w.heap.size+2) #[.pointer (some ⟨G1,0,none⟩),.pointer (some ⟨gb1,0,none⟩)];have KR3:=yH (show Blk (w2.setRow (w.heap.size+2) #[.pointer (some ⟨G1,0,none⟩),.pointer (some ⟨gb1,0,none⟩)]) (w.heap.size+2) #[.pointer (some ⟨G1,0,none⟩),.pointer (some ⟨gb1,0,none⟩)] 80 from setRow_heap _ (w.heap.size+2) _ _ _ (0,0) KR2.out.out);have KC3:=yH (KC2.out.keep kA (by omega));have L3:=yH (L2.out.keep kA (by have:=GE.out;omega) (by have:=GE.out;omega));have P3:=yH (P2.out.keep kA (by have:=GE.out;omega) (fun b hb e=>by have h1:=(P2.out.lt (.inr hb)).1;have:=GE.out;omega));have B3:=yH (below_setRow B2.out (by omega:w.heap.size≤w.heap.size+2) #[.pointer (some ⟨G1,0,none⟩),.pointer (some ⟨gb1,0,none⟩)]);have HS3:Hid ((w2.setRow (w.heap.size+2) #[.pointer (some ⟨G1,0,none⟩),.pointer (some ⟨gb1,0,none⟩)]).heap.size=w2.heap.size):=yH (by simp[World.setRow]);generalize hW3:w2.setRow (w.heap.size+2) #[.pointer (some ⟨G1,0,none⟩),.pointer (some ⟨gb1,0,none⟩)]=W3 at *;clear hW3 kA KR2 KC2 L2 P2 B2;have r0:=KR3.out.cell 0;have r1:=KR3.out.cell 1;simp at r0 r1;have CF:=yH (cfill_any HMy HD (base:=w1.heap.size) (ch:=w.heap.size+3) L3.out II.out P3.out JJ.out (by have:=GE.out;omega) (by have:=GE.out;omega) (by have:=GE.out;have:=HS3.out;omega) x HX.out MAY.out.2.2.2.2.2 MAY.out.2.2.2.2.1 KC3.out (by have:=GE.out;omega));go_wp2_with fail;refine CF.out.mono ?_;rintro e wf hpf;clear r0 r1 CF;rcases hpf with⟨her,rfl,kf⟩|⟨vb3,a,c,σ,heq,rfl,hC,hL,hP,hR,kf⟩
 ·have NO:Hid ((aBz ps ls l N x.ow x.sl x.bu x.lf x.nu x.de).1=13):=yH (by rw[EQ.out];unfold aHr;rw[if_pos (by rw[her];decide)];exact her);have KRf:=yH (KR3.out.keep kf (by have:=GE.out;omega));have Bf:=yH (B3.out.trans (kf.below B3.out.size (fun k hk h=>by have:=GE.out;omega)));clear her kf KR3 KC3 L3 P3 B3;have r0:=KRf.out.cell 0;have r1:=KRf.out.cell 1;simp at r0 r1;go_wp2_with (refine aAa rfl 80 (.tmp 4) (.tmp 26) rfl (w.heap.size+2) #[.pointer none,.pointer none] rfl rfl 80 _ KRf.out.out (by kernel_rfl) rfl (by simp[Value.oneCell']) ?_);refine bodyPost_ret (v:=.tuple #[.agg #[.pointer none,.pointer none],.slice none 0 0,.int .u64 0,.int .i64 13]) (aBp rfl _ _ (w.heap.size+2) 80 #[.pointer none,.pointer none] _ _ _ _ rfl (setRow_heap _ (w.heap.size+2) _ _ _ (0,0) KRf.out.out) Tryz.underlying80 rfl (by kernel_rfl) rfl rfl rfl) rfl ?_;exact .inl ⟨13,by decide,NO.out,rfl,below_setRow Bf.out (by omega) _⟩
 have KRf:=yH (KR3.out.keep kf (by have:=GE.out;omega));have Bf:=yH (B3.out.trans (kf.below B3.out.size (fun k hk h=>by have:=GE.out;omega)));have KCf:=yH hC;have Lf:=yH hL;have Pf:=yH hP;have Rf:=yH hR;have HQ:=yH heq;have SF:=yH (show w1.heap.size≤W3.heap.size by have:=GE.out;have:=HS3.out;omega);have hinv:=aF8.ends (ow:=x.ow) (sl:=x.sl) (bu:=x.bu) (nu:=x.nu) (de:=x.de) 64 (aF8.start II.out JJ.out (ow:=x.ow) (sl:=x.sl) (bu:=x.bu) (nu:=x.nu) (de:=x.de) (n0:=x.lf) (by have:=MAY.out.2.2.2.2.1;omega));rw[heq]at hinv;dsimp only at hinv;have IV:=yH hinv;have hnn:=hinv.nn;have hsum:=hinv.sum;have hgi:=hinv.gi_nn;have hbd:=MAY.out.2.2.2.2.1;have SN:=yH (show 0≤σ.n∧σ.n≤1099511627776 by omega);clear hC hL hP hR heq kf KR3 KC3 L3 P3 B3 hinv hnn hsum hgi hbd;obtain⟨sn,hsn⟩:∃sn,σ.n=sn:=⟨_,rfl⟩;have HSN:=yH hsn;rw[hsn]at KCf SN;clear hsn;have c0:=KCf.out.cell 0;have c1:=KCf.out.cell 1;have c2:=KCf.out.cell 2;have c3:=KCf.out.cell 3;have c4:=KCf.out.cell 4;have c5:=KCf.out.cell 5;have c6:=KCf.out.cell 6;have r0:=KRf.out.cell 0;have r1:=KRf.out.cell 1;simp at c0 c1 c2 c3 c4 c5 c6 r0 r1
 by_cases hn1:sn<1
 ·have CN:=yH (crest_none ⟨x.se,x.ow,x.sl,x.bu,sn,x.nu,x.de⟩ hn1 (some ⟨gb1,0,none⟩) wf);dsimp only at CN;have YES:Hid (aBz ps ls l N x.ow x.sl x.bu x.lf x.nu x.de=(0,σ,N,0)):=yH (by rw[EQ.out,HQ.out];unfold aHr;rw[if_neg (by simp),if_pos (by show σ.n≤0;rw[HSN.out];omega)]);clear hn1;go_wp2_with fail;refine CN.out.mono ?_;rintro e WE ⟨rfl,be⟩;have KRe:=yB KRf be;have Be:=yT Bf be;have Le:=yH (Lf.out.below be);have Pe:=yH (Pf.out.below be);have Re:=yH (Rf.out.below be);clear be c0 c1 c2 c3 c4 c5 c6 r0 r1 CN KRf KCf Bf Lf Pf Rf;have sf:=SF.out;have r0:=KRe.out.cell 0;have r1:=KRe.out.cell 1;simp at r0 r1;go_wp2_with (refine aAa rfl 80 (.tmp 4) (.tmp 39) rfl (w.heap.size+2) #[.pointer (some ⟨G1,0,none⟩),.pointer (some ⟨gb1,0,none⟩)] rfl rfl 80 _ KRe.out.out (by kernel_rfl) rfl (by simp[Value.oneCell']) ?_);refine bodyPost_ret (v:=.tuple #[.agg #[.pointer (some ⟨G1,0,none⟩),.pointer (some ⟨gb1,0,none⟩)],_,.int .u64 0,.int .i64 0]) (aBp rfl _ _ (w.heap.size+2) 80 #[.pointer (some ⟨G1,0,none⟩),.pointer (some ⟨gb1,0,none⟩)] _ _ _ _ rfl (setRow_heap _ (w.heap.size+2) _ _ _ (0,0) KRe.out.out) Tryz.underlying80 rfl (by kernel_rfl) rfl rfl rfl) rfl ?_;have kk:=aAc (w:=WE) (w.heap.size+2) #[.pointer (some ⟨G1,0,none⟩),.pointer (some ⟨gb1,0,none⟩)];have ge:=GE.out;refine .inr ⟨G1,M1,gb1,_,a,c,_,N,_,YES.out,rfl,Le.out.keep kk (by omega) (by omega),PB.down12 (Pe.out.keep kk (by have:=Pe.out.ge;omega) (fun b hb e=>by have h1:=(Pe.out.lt (.inr hb)).1;omega)) (by omega),aBj.base (Re.out.keep kk (fun b hb e=>by have h1:=(Re.out.type hb).1;omega)) (by omega),by omega,by omega,below_setRow Be.out (by omega) _⟩
 have CR:=yH (crest_any Pf.out IV.out.binv ⟨x.se,x.ow,x.sl,x.bu,sn,x.nu,x.de⟩ ⟨HX.out.se,HX.out.ow,HX.out.sl,HX.out.bu,⟨by have:=SN.out;show _≤sn;omega,by have:=SN.out;show sn≤_;omega⟩,HX.out.nu,HX.out.de⟩ hn1);dsimp only at CR;obtain⟨pe,hpe⟩:∃pe,aC2 σ.l ⟨N,x.ow,x.sl,x.bu,sn,x.nu,x.de⟩=pe:=⟨_,rfl⟩;obtain⟨pn,hpn⟩:∃pn,aFs σ.l ⟨N,x.ow,x.sl,x.bu,sn,x.nu,x.de⟩=pn:=⟨_,rfl⟩
 have END:Hid (aBz ps ls l N x.ow x.sl x.bu x.lf x.nu x.de=(pe,⟨σ.ls,aFd σ.l ⟨N,x.ow,x.sl,x.bu,sn,x.nu,x.de⟩,σ.fs,sn⟩,aE2 σ.l ⟨N,x.ow,x.sl,x.bu,sn,x.nu,x.de⟩,pn)):=yH (by
  rw[EQ.out,HQ.out];unfold aHr;rw[if_neg (by simp),if_neg (by show ¬σ.n≤0;rw[HSN.out];omega)];simp only[HSN.out,hpe,hpn])
 rw[hpe,hpn]at CR;clear hpe hpn hn1;go_wp2_with fail;refine CR.out.mono ?_;rintro e WE ⟨rfl,vl',hP',ke,_⟩;have KRe:=yH (KRf.out.keep ke (fun h=>by have h1:=(Pf.out.lt h).1;have:=GE.out;omega));have Be:=yH (Bf.out.trans (ke.below Bf.out.size (fun k hk h=>by have h1:=(Pf.out.lt h).1;have:=GE.out;omega)));have AP:=(Pf.out.ne_map Lf.out).2;have Le:=yH (Lf.out.keep ke AP.1 AP.2);have Pe:=yH hP'
 have Re:=yH (Rf.out.keep ke (fun b hb h=>by
  obtain⟨_,_,cu,hcu⟩:=Rf.out.type hb;rcases h with h|h
  ·subst h;exact absurd (Pf.out.blk.out.symm.trans hcu) (by simp)
  obtain⟨_,_,c2,k2⟩:=aAe Pf.out.row h;exact absurd (k2.symm.trans hcu) (by simp)))
 clear hP' ke AP c0 c1 c2 c3 c4 c5 c6 r0 r1 CR KRf KCf Bf Lf Pf Rf
 by_cases hz:pe=0
 rotate_left
 ·have q2:(pe != 0)=true:=by simpa using hz
  have HZ:=yH hz;clear hz;have r0:=KRe.out.cell 0;have r1:=KRe.out.cell 1;simp at r0 r1;go_wp2_with (refine aAa rfl 80 (.tmp 4) (.tmp 37) rfl (w.heap.size+2) #[.pointer none,.pointer none] rfl rfl 80 _ KRe.out.out (by kernel_rfl) rfl (by simp[Value.oneCell']) ?_);refine bodyPost_ret (v:=.tuple #[.agg #[.pointer none,.pointer none],.slice none 0 0,.int .u64 0,.int .i64 pe]) (aBp rfl _ _ (w.heap.size+2) 80 #[.pointer none,.pointer none] _ _ _ _ rfl (setRow_heap _ (w.heap.size+2) _ _ _ (0,0) KRe.out.out) Tryz.underlying80 rfl (by kernel_rfl) rfl rfl rfl) rfl ?_;exact .inl ⟨pe,HZ.out,by rw[END.out],rfl,below_setRow Be.out (by omega) _⟩
 subst hz;have sf:=SF.out;have r0:=KRe.out.cell 0;have r1:=KRe.out.cell 1;simp at r0 r1;go_wp2_with (refine aAa rfl 80 (.tmp 4) (.tmp 39) rfl (w.heap.size+2) #[.pointer (some ⟨G1,0,none⟩),.pointer (some ⟨gb1,0,none⟩)] rfl rfl 80 _ KRe.out.out (by kernel_rfl) rfl (by simp[Value.oneCell']) ?_);refine bodyPost_ret (v:=.tuple #[.agg #[.pointer (some ⟨G1,0,none⟩),.pointer (some ⟨gb1,0,none⟩)],_,.int .u64 pn,.int .i64 0]) (aBp rfl _ _ (w.heap.size+2) 80 #[.pointer (some ⟨G1,0,none⟩),.pointer (some ⟨gb1,0,none⟩)] _ _ _ _ rfl (setRow_heap _ (w.heap.size+2) _ _ _ (0,0) KRe.out.out) Tryz.underlying80 rfl (by kernel_rfl) rfl rfl rfl) rfl ?_;have kk:=aAc (w:=WE) (w.heap.size+2) #[.pointer (some ⟨G1,0,none⟩),.pointer (some ⟨gb1,0,none⟩)];have ge:=GE.out;refine .inr ⟨G1,M1,gb1,_,a,c,_,_,_,END.out,rfl,Le.out.keep kk (by omega) (by omega),PB.down12 (Pe.out.keep kk (by have:=Pe.out.ge;omega) (fun b hb e=>by have h1:=(Pe.out.lt (.inr hb)).1;omega)) (by omega),aBj.base (Re.out.keep kk (fun b hb e=>by have h1:=(Re.out.type hb).1;omega)) (by omega),by omega,by omega,below_setRow Be.out (by omega) _⟩
theorem aGk(x:Int)(w:World):Calls Tryz.prog 267 #[.int .u8 x] w fun e w'=>e=.returned (.bool (decide (1≤x∧x≤16)))∧w=w':=by
 by_cases h1:1≤x
 ·have d1:decide (1≤x)=true:=by simpa using h1
  by_cases h2:x≤16
  ·have d2:decide (x≤16)=true:=by simpa using h2
   rw[decide_eq_true (⟨h1,h2⟩:1≤x∧x≤16)];clear h1 h2;go_enter Tryz.func267,Tryz.ntmps267;go_wp2_with fail;go_ret;exact⟨rfl,rfl⟩
  have d2:decide (x≤16)=false:=by simpa using h2
  rw[decide_eq_false (fun h:1≤x∧x≤16=>h2 h.2)];clear h1 h2;go_enter Tryz.func267,Tryz.ntmps267;go_wp2_with fail;go_ret;exact⟨rfl,rfl⟩
 have d1:decide (1≤x)=false:=by simpa using h1
 rw[decide_eq_false (fun h:1≤x∧x≤16=>h1 h.1)];clear h1;go_enter Tryz.func267,Tryz.ntmps267;go_wp2_with fail;go_ret;exact⟨rfl,rfl⟩
theorem aD4(x:Int)(w:World):Calls Tryz.prog 268 #[.int .u8 x] w fun e w'=>e=.returned (.bool (decide (1≤x∧x≤8)))∧w=w':=by
 by_cases h1:1≤x
 ·have d1:decide (1≤x)=true:=by simpa using h1
  by_cases h2:x≤8
  ·have d2:decide (x≤8)=true:=by simpa using h2
   rw[decide_eq_true (⟨h1,h2⟩:1≤x∧x≤8)];clear h1 h2;go_enter Tryz.func268,Tryz.ntmps268;go_wp2_with fail;go_ret;exact⟨rfl,rfl⟩
  have d2:decide (x≤8)=false:=by simpa using h2
  rw[decide_eq_false (fun h:1≤x∧x≤8=>h2 h.2)];clear h1 h2;go_enter Tryz.func268,Tryz.ntmps268;go_wp2_with fail;go_ret;exact⟨rfl,rfl⟩
 have d1:decide (1≤x)=false:=by simpa using h1
 rw[decide_eq_false (fun h:1≤x∧x≤8=>h1 h.1)];clear h1;go_enter Tryz.func268,Tryz.ntmps268;go_wp2_with fail;go_ret;exact⟨rfl,rfl⟩
theorem aFg(x:Int)(w:World):Calls Tryz.prog 269 #[.int .i64 x] w fun e w'=>e=.returned (.bool (decide (1≤x∧x≤1099511627776)))∧w=w':=by
 by_cases h1:1≤x
 ·have d1:decide (1≤x)=true:=by simpa using h1
  by_cases h2:x≤1099511627776
  ·have d2:decide (x≤1099511627776)=true:=by simpa using h2
   rw[decide_eq_true (⟨h1,h2⟩:1≤x∧x≤1099511627776)];clear h1 h2;go_enter Tryz.func269,Tryz.ntmps269;go_wp2_with fail;go_ret;exact⟨rfl,rfl⟩
  have d2:decide (x≤1099511627776)=false:=by simpa using h2
  rw[decide_eq_false (fun h:1≤x∧x≤1099511627776=>h2 h.2)];clear h1 h2;go_enter Tryz.func269,Tryz.ntmps269;go_wp2_with fail;go_ret;exact⟨rfl,rfl⟩
 have d1:decide (1≤x)=false:=by simpa using h1
 rw[decide_eq_false (fun h:1≤x∧x≤1099511627776=>h1 h.1)];clear h1;go_enter Tryz.func269,Tryz.ntmps269;go_wp2_with fail;go_ret;exact⟨rfl,rfl⟩
theorem smay_any(fr pt get give n most:Int)(w:World):Calls Tryz.prog 233 #[.agg #[.int .u8 fr,.int .u8 pt,.int .u8 get,.int .u8 give,.int .i64 n,.int .i64 most]] w (yR w (.bool (decide (aD0 fr pt get give n most)))):=by
 have B:=yH ((Below.refl w.heap.size w).alloc yL (.cells #[.int .u8 fr,.int .u8 pt,.int .u8 get,.int .u8 give,.int .i64 n,.int .i64 most] 289));have K:=yH (Blk.new w #[.int .u8 fr,.int .u8 pt,.int .u8 get,.int .u8 give,.int .i64 n,.int .i64 most] 289);generalize hW:w.alloc (.cells #[.int .u8 fr,.int .u8 pt,.int .u8 get,.int .u8 give,.int .i64 n,.int .i64 most] 289)=W at *;have HW:=yH hW;clear hW;have c0:=K.out.cell 0;have c1:=K.out.cell 1;have c2:=K.out.cell 2;have c3:=K.out.cell 3;have c4:=K.out.cell 4;have c5:=K.out.cell 5;simp at c0 c1 c2 c3 c4 c5;clear K
 by_cases h0:¬(1≤fr∧fr≤16)
 ·have NO:decide (aD0 fr pt get give n most)=false:=decide_eq_false (by unfold aD0;omega);rw[NO];have C0:=yH (aGk fr W);rw[decide_eq_false h0]at C0;clear NO h0;go_enter Tryz.func233,Tryz.ntmps233
  go_upto_region 1 with fail
  rw[HW.out];go_wp2_with fail;refine C0.out.mono ?_;rintro e w' ⟨rfl,rfl⟩;go_wp2_with fail;go_ret;exact⟨rfl,B.out⟩
 have h0:=Decidable.not_not.1 h0;have C0:=yH (aGk fr W);rw[decide_eq_true h0]at C0
 by_cases h1:¬(1≤pt∧pt≤16)
 ·have NO:decide (aD0 fr pt get give n most)=false:=decide_eq_false (by unfold aD0;omega);rw[NO];have C1:=yH (aGk pt W);rw[decide_eq_false h1]at C1;clear NO h0 h1;go_enter Tryz.func233,Tryz.ntmps233
  go_upto_region 1 with fail
  rw[HW.out];go_wp2_with fail;refine C0.out.mono ?_;rintro e w' ⟨rfl,rfl⟩;go_wp2_with fail;refine C1.out.mono ?_;rintro e w' ⟨rfl,rfl⟩;go_wp2_with fail;go_ret;exact⟨rfl,B.out⟩
 have h1:=Decidable.not_not.1 h1;have C1:=yH (aGk pt W);rw[decide_eq_true h1]at C1
 by_cases h2:¬(1≤get∧get≤8)
 ·have NO:decide (aD0 fr pt get give n most)=false:=decide_eq_false (by unfold aD0;omega);rw[NO];have C2:=yH (aD4 get W);rw[decide_eq_false h2]at C2;clear NO h0 h1 h2;go_enter Tryz.func233,Tryz.ntmps233
  go_upto_region 1 with fail
  rw[HW.out];go_wp2_with fail;refine C0.out.mono ?_;rintro e w' ⟨rfl,rfl⟩;go_wp2_with fail;refine C1.out.mono ?_;rintro e w' ⟨rfl,rfl⟩;go_wp2_with fail;refine C2.out.mono ?_;rintro e w' ⟨rfl,rfl⟩;go_wp2_with fail;go_ret;exact⟨rfl,B.out⟩
 have h2:=Decidable.not_not.1 h2;have C2:=yH (aD4 get W);rw[decide_eq_true h2]at C2
 by_cases h3:¬(1≤give∧give≤8)
 ·have NO:decide (aD0 fr pt get give n most)=false:=decide_eq_false (by unfold aD0;omega);rw[NO];have C3:=yH (aD4 give W);rw[decide_eq_false h3]at C3;clear NO h0 h1 h2 h3;go_enter Tryz.func233,Tryz.ntmps233
  go_upto_region 1 with fail
  rw[HW.out];go_wp2_with fail;refine C0.out.mono ?_;rintro e w' ⟨rfl,rfl⟩;go_wp2_with fail;refine C1.out.mono ?_;rintro e w' ⟨rfl,rfl⟩;go_wp2_with fail;refine C2.out.mono ?_;rintro e w' ⟨rfl,rfl⟩;go_wp2_with fail;refine C3.out.mono ?_;rintro e w' ⟨rfl,rfl⟩;go_wp2_with fail;go_ret;exact⟨rfl,B.out⟩
 have h3:=Decidable.not_not.1 h3;have C3:=yH (aD4 give W);rw[decide_eq_true h3]at C3
 by_cases h4:¬(get≠give)
 ·have NO:decide (aD0 fr pt get give n most)=false:=decide_eq_false (by unfold aD0;omega);rw[NO];have q4:(get != give)=false:=by simpa using h4
  clear NO h0 h1 h2 h3 h4;go_enter Tryz.func233,Tryz.ntmps233
  go_upto_region 1 with fail
  rw[HW.out];go_wp2_with fail;refine C0.out.mono ?_;rintro e w' ⟨rfl,rfl⟩;go_wp2_with fail;refine C1.out.mono ?_;rintro e w' ⟨rfl,rfl⟩;go_wp2_with fail;refine C2.out.mono ?_;rintro e w' ⟨rfl,rfl⟩;go_wp2_with fail;refine C3.out.mono ?_;rintro e w' ⟨rfl,rfl⟩;go_wp2_with fail;go_ret;exact⟨rfl,B.out⟩
 have h4:=Decidable.not_not.1 h4;have q4:(get != give)=true:=by simpa using h4
 by_cases h5:¬(1≤n∧n≤1099511627776)
 ·have NO:decide (aD0 fr pt get give n most)=false:=decide_eq_false (by unfold aD0;omega);rw[NO];have C5:=yH (aFg n W);rw[decide_eq_false h5]at C5;clear NO h0 h1 h2 h3 h4 h5;go_enter Tryz.func233,Tryz.ntmps233
  go_upto_region 1 with fail
  rw[HW.out];go_wp2_with fail;refine C0.out.mono ?_;rintro e w' ⟨rfl,rfl⟩;go_wp2_with fail;refine C1.out.mono ?_;rintro e w' ⟨rfl,rfl⟩;go_wp2_with fail;refine C2.out.mono ?_;rintro e w' ⟨rfl,rfl⟩;go_wp2_with fail;refine C3.out.mono ?_;rintro e w' ⟨rfl,rfl⟩;go_wp2_with fail;refine C5.out.mono ?_;rintro e w' ⟨rfl,rfl⟩;go_wp2_with fail;go_ret;exact⟨rfl,B.out⟩
 have h5:=Decidable.not_not.1 h5;have C5:=yH (aFg n W);rw[decide_eq_true h5]at C5
 by_cases h6:¬(1≤most∧most≤1099511627776)
 ·have NO:decide (aD0 fr pt get give n most)=false:=decide_eq_false (by unfold aD0;omega);rw[NO];have C6:=yH (aFg most W);rw[decide_eq_false h6]at C6;clear NO h0 h1 h2 h3 h4 h5 h6;go_enter Tryz.func233,Tryz.ntmps233
  go_upto_region 1 with fail
  rw[HW.out];go_wp2_with fail;refine C0.out.mono ?_;rintro e w' ⟨rfl,rfl⟩;go_wp2_with fail;refine C1.out.mono ?_;rintro e w' ⟨rfl,rfl⟩;go_wp2_with fail;refine C2.out.mono ?_;rintro e w' ⟨rfl,rfl⟩;go_wp2_with fail;refine C3.out.mono ?_;rintro e w' ⟨rfl,rfl⟩;go_wp2_with fail;refine C5.out.mono ?_;rintro e w' ⟨rfl,rfl⟩;go_wp2_with fail;refine C6.out.mono ?_;rintro e w' ⟨rfl,rfl⟩;go_wp2_with fail;go_ret;exact⟨rfl,B.out⟩
 have h6:=Decidable.not_not.1 h6;have C6:=yH (aFg most W);rw[decide_eq_true h6]at C6;rw[decide_eq_true (show aD0 fr pt get give n most from⟨h0,h1,h2,h3,h4,h5,h6⟩)];clear h0 h1 h2 h3 h4 h5 h6;go_enter Tryz.func233,Tryz.ntmps233
 go_upto_region 1 with fail
 rw[HW.out];go_wp2_with fail;refine C0.out.mono ?_;rintro e w' ⟨rfl,rfl⟩;go_wp2_with fail;refine C1.out.mono ?_;rintro e w' ⟨rfl,rfl⟩;go_wp2_with fail;refine C2.out.mono ?_;rintro e w' ⟨rfl,rfl⟩;go_wp2_with fail;refine C3.out.mono ?_;rintro e w' ⟨rfl,rfl⟩;go_wp2_with fail;refine C5.out.mono ?_;rintro e w' ⟨rfl,rfl⟩;go_wp2_with fail;refine C6.out.mono ?_;rintro e w' ⟨rfl,rfl⟩;go_wp2_with fail;go_ret;exact⟨rfl,B.out⟩
theorem smade_of{w:World}{a b:Option Addr}{er:Int}(h:∀w',Below w.heap.size w w'→Calls Tryz.prog 235 #[.agg #[.pointer a,.pointer b],.int .u64 0,.int .u8 0,.int .u8 0,.int .i64 0] w' fun e w''=>e=.returned (.tuple #[aH3,.int .i64 er])∧Below w'.heap.size w' w''):
  Calls Tryz.prog 232 #[.agg #[.pointer a,.pointer b]] w (yR w (.bool (er != 2))):=by
 have b0:=(Below.refl w.heap.size w).alloc yL (.cells #[.pointer a,.pointer b] 80);have K:=yH (Blk.new w #[.pointer a,.pointer b] 80);have B:=yH b0;have C:=yH (h _ b0);clear b0 h;obtain⟨q,hq⟩:∃q,(er != 2)=q:=⟨_,rfl⟩;rw[hq];unfold aH3 at C;generalize hW:w.alloc (.cells #[.pointer a,.pointer b] 80)=W at *;have HW:=yH hW;clear hW;have c0:=K.out.cell 0;have c1:=K.out.cell 1;simp at c0 c1;clear K;go_enter Tryz.func232,Tryz.ntmps232
 go_upto_region 1 with fail
 rw[HW.out];go_wp2_with fail;refine C.out.mono ?_;rintro e w1 ⟨rfl,b1⟩;have B1:=yH ((B.out.trans (b1.mono B.out.size)).alloc (Nat.le_trans B.out.size b1.size) (.cells #[.int .u64 0,.int .u8 0,.int .u8 0,.int .i64 0,.int .i64 0] 241));clear b1 c0 c1 C B;go_wp2_with fail;go_ret;exact⟨rfl,B1.out⟩
theorem smade_any(HD:aD1){w:World}{base G M gb:Nat}{ps:List Int}{ls:List Ln}{l:List Of}{N:Int}{vb:Value}(hL:LedM w G M ps ls)(hI:LInv ps ls)(hP:PB w base gb l N vb)(hJ:BInv l N):
  Calls Tryz.prog 232 #[.agg #[.pointer (some ⟨G,0,none⟩),.pointer (some ⟨gb,0,none⟩)]] w (yR w (.bool true)):=
 smade_of (er:=1) (fun w' b=>(aJq HD (hL.below b) hI (hP.below b) hJ 0 0 0 0 (by omega) (by unfold In8;omega) (by unfold In8;omega) (by unfold In64;omega)).mono (by
  rintro e w'' (⟨_,h1,h2⟩|⟨h,_⟩)
  ·exact⟨h1,h2⟩
  exact absurd h.1 (by omega)))
def aHb(ps:List Int)(fr pt get give n most:Int):Int:=if ¬aD0 fr pt get give n most then 1 else if fr∉ps∨pt∉ps then 7 else 0
theorem aTu{w:World}{a b:Option Addr}(fr pt get give n most:Int)(h:∀w',Below w.heap.size w w'→Calls Tryz.prog 232 #[.agg #[.pointer a,.pointer b]] w' fun e w''=>e=.returned (.bool false)∧Below w'.heap.size w' w''):
  Calls Tryz.prog 197 #[.agg #[.int .u8 fr,.int .u8 pt,.int .u8 get,.int .u8 give,.int .i64 n,.int .i64 most],.agg #[.pointer a,.pointer b]] w (yR w (.int .i64 2)):=by
 have b0:=((Below.refl w.heap.size w).alloc yL (.cells #[.int .u8 fr,.int .u8 pt,.int .u8 get,.int .u8 give,.int .i64 n,.int .i64 most] 289));have b1:=b0.alloc b0.size (.cells #[.pointer a,.pointer b] 80);have K:=yH (pAB (w.alloc (.cells #[.int .u8 fr,.int .u8 pt,.int .u8 get,.int .u8 give,.int .i64 n,.int .i64 most] 289)) #[.pointer a,.pointer b] 80 (g:=w.heap.size+1) (by simp));have B:=yH b1;have C:=yH (h _ b1);clear b0 b1 h;generalize hW:(w.alloc (.cells #[.int .u8 fr,.int .u8 pt,.int .u8 get,.int .u8 give,.int .i64 n,.int .i64 most] 289)).alloc (.cells #[.pointer a,.pointer b] 80)=W at *;have HW:=yH hW;clear hW;have c0:=K.out.cell 0;have c1:=K.out.cell 1;simp at c0 c1;clear K;go_enter Tryz.func197,Tryz.ntmps197
 go_upto_region 1 with fail
 rw[HW.out];go_wp2_with fail;refine C.out.mono ?_;rintro e w1 ⟨rfl,b1⟩;have B1:=yT B b1;clear b1 c0 c1 C B;go_wp2_with fail;go_ret;exact⟨rfl,B1.out⟩
theorem swrong_any(HD:aD1){w:World}{base G M gb:Nat}{ps:List Int}{ls:List Ln}{l:List Of}{N:Int}{vb:Value}(hL:LedM w G M ps ls)(hI:LInv ps ls)(hP:PB w base gb l N vb)(hJ:BInv l N)(fr pt get give n most:Int):
  Calls Tryz.prog 197 #[.agg #[.int .u8 fr,.int .u8 pt,.int .u8 get,.int .u8 give,.int .i64 n,.int .i64 most],.agg #[.pointer (some ⟨G,0,none⟩),.pointer (some ⟨gb,0,none⟩)]] w (yR w (.int .i64 (aHb ps fr pt get give n most))):=by
 have b0:=((Below.refl w.heap.size w).alloc yL (.cells #[.int .u8 fr,.int .u8 pt,.int .u8 get,.int .u8 give,.int .i64 n,.int .i64 most] 289));have b1:=b0.alloc b0.size (.cells #[.pointer (some ⟨G,0,none⟩),.pointer (some ⟨gb,0,none⟩)] 80);have KS:=yH ((Blk.new w #[.int .u8 fr,.int .u8 pt,.int .u8 get,.int .u8 give,.int .i64 n,.int .i64 most] 289).alloc (.cells #[.pointer (some ⟨G,0,none⟩),.pointer (some ⟨gb,0,none⟩)] 80));have KH:=yH (pAB (w.alloc (.cells #[.int .u8 fr,.int .u8 pt,.int .u8 get,.int .u8 give,.int .i64 n,.int .i64 most] 289)) #[.pointer (some ⟨G,0,none⟩),.pointer (some ⟨gb,0,none⟩)] 80 (g:=w.heap.size+1) (by simp));have HL:=yH (hL.below b1);have C:=yH (smade_any HD (hL.below b1) hI (hP.below b1) hJ);have B:=yH b1;have HB:=yH hI.bd;obtain⟨R,hR⟩:∃R,aHb ps fr pt get give n most=R:=⟨_,rfl⟩;rw[hR];have HR:=yH hR;clear b0 b1 hL hI hP hJ hR;generalize hW:(w.alloc (.cells #[.int .u8 fr,.int .u8 pt,.int .u8 get,.int .u8 give,.int .i64 n,.int .i64 most] 289)).alloc (.cells #[.pointer (some ⟨G,0,none⟩),.pointer (some ⟨gb,0,none⟩)] 80)=W at *;have HW:=yH hW;clear hW;have c0:=KH.out.cell 0;have c1:=KH.out.cell 1;simp at c0 c1;go_enter Tryz.func197,Tryz.ntmps197
 go_upto_region 1 with fail
 rw[HW.out];go_wp2_with fail;refine C.out.mono ?_;rintro e w1 ⟨rfl,b1⟩;have HL1:=yH (HL.out.below b1);have KS1:=yB KS b1;have KH1:=yB KH b1;have B1:=yT B b1;clear b1 c0 c1 C B HL KS KH;have s0:=KS1.out.cell 0;have s1:=KS1.out.cell 1;have s2:=KS1.out.cell 2;have s3:=KS1.out.cell 3;have s4:=KS1.out.cell 4;have s5:=KS1.out.cell 5;simp at s0 s1 s2 s3 s4 s5;have CM:=yH (smay_any fr pt get give n most w1)
 by_cases hm:aD0 fr pt get give n most
 ·rw[decide_eq_true hm]at CM;have HMY:=yH hm;clear hm;go_wp2_with fail;refine CM.out.mono ?_;rintro e w2 ⟨rfl,b2⟩;have HL2:=yH (HL1.out.below b2);have KS2:=yB KS1 b2;have KH2:=yB KH1 b2;have B2:=yT B1 b2;clear b2 s0 s1 s2 s3 s4 s5 CM B1 HL1 KS1 KH1;have s0:=KS2.out.cell 0;have s1:=KS2.out.cell 1;have c0:=KH2.out.cell 0;have c1:=KH2.out.cell 1;simp at s0 s1 c0 c1;have CF:=yH (aF2 HL2.out.blk HB.out fr);have CT:=yH (aF2 HL2.out.blk HB.out pt)
  by_cases hf:fr∈ps
  ·rw[decide_eq_true hf]at CF
   by_cases ht:pt∈ps
   ·rw[decide_eq_true ht]at CT;have EE:Hid (R=0):=yH (by rw[←HR.out];unfold aHb;rw[if_neg (fun h=>h HMY.out),if_neg (fun h=>h.elim (fun h=>h hf) (fun h=>h ht))]);clear hf ht;go_wp2_with fail;refine CF.out.mono ?_;rintro e w3 ⟨rfl,rfl⟩;go_wp2_with fail;refine CT.out.mono ?_;rintro e w3 ⟨rfl,rfl⟩;go_wp2_with fail;go_ret;exact⟨by rw[EE.out];rfl,B2.out⟩
   rw[decide_eq_false ht]at CT;have EE:Hid (R=7):=yH (by rw[←HR.out];unfold aHb;rw[if_neg (fun h=>h HMY.out),if_pos (.inr ht)]);clear hf ht;go_wp2_with fail;refine CF.out.mono ?_;rintro e w3 ⟨rfl,rfl⟩;go_wp2_with fail;refine CT.out.mono ?_;rintro e w3 ⟨rfl,rfl⟩;go_wp2_with fail;go_ret;exact⟨by rw[EE.out];rfl,B2.out⟩
  rw[decide_eq_false hf]at CF;have EE:Hid (R=7):=yH (by rw[←HR.out];unfold aHb;rw[if_neg (fun h=>h HMY.out),if_pos (.inl hf)]);clear hf CT;go_wp2_with fail;refine CF.out.mono ?_;rintro e w3 ⟨rfl,rfl⟩;go_wp2_with fail;go_ret;exact⟨by rw[EE.out];rfl,B2.out⟩
 rw[decide_eq_false hm]at CM;have EE:Hid (R=1):=yH (by rw[←HR.out];unfold aHb;rw[if_pos hm]);clear hm;go_wp2_with fail;refine CM.out.mono ?_;rintro e w2 ⟨rfl,b2⟩;have B2:=yT B1 b2;clear b2 s0 s1 s2 s3 s4 s5 CM B1;go_wp2_with fail;go_ret;exact⟨by rw[EE.out];rfl,B2.out⟩
end Go.Proofs.YtngnfdnfpiiclaaGreat
