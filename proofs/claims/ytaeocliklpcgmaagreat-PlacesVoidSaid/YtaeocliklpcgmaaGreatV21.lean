/- Pieces of one proof. -/
import Derived.Test.YtaeocliklpcgmaaGreatV20
import Derived.Laws.AppendOwnNone
set_option linter.all false
set_option maxHeartbeats 64000000
set_option maxRecDepth 100000
namespace Go.Proofs.YtaeocliklpcgmaaGreat
open Go.RowKit
attribute [local go_sem] Oper.semAt_some
structure FsM(w:World)(G M gb base:Nat)(ps:List Int)(ls:List Ln)(l:List Of)(N:Int)(vb:Value)(x:Of)(W:World):Prop where
 below:Below w.heap.size w W
 c:Blk W w.heap.size #[.int .u64 x.se,.int .u8 x.ow,.int .u8 x.sl,.int .u8 x.bu,.int .i64 x.lf,.int .i64 x.nu,.int .i64 x.de] 100
 h:Blk W (w.heap.size+1) #[.pointer (some ⟨G,0,none⟩),.pointer (some ⟨gb,0,none⟩)] 31
 sq:Blk W (w.heap.size+2) #[.int .u64 0] 39
 nn:∃v:Int,Blk W (w.heap.size+3) #[.int .i64 v] 2
 led:LedM W G M ps ls
 book:PB W base gb l N vb
 c4:Blk W (w.heap.size+4) #[.int .u64 x.se,.int .u8 x.ow,.int .u8 x.sl,.int .u8 x.bu,.int .i64 x.lf,.int .i64 x.nu,.int .i64 x.de] 100
 c5:Blk W (w.heap.size+5) #[(.pointer (some ⟨gb,0,none⟩))] 29
 lt:G<w.heap.size∧M<w.heap.size∧∀b,Foot gb vb b→b<w.heap.size
theorem FsM.keep{S:Nat→Prop}{w:World}{G M gb base:Nat}{ps:List Int}{ls:List Ln}{l:List Of}{N:Int}{vb:Value}{x:Of}{W W':World}(h:FsM w G M gb base ps ls l N vb x W)(k:Keep S W W')(hS:∀j,S j→w.heap.size+6≤j):FsM w G M gb base ps ls l N vb x W':=by
 have q:∀j,j<w.heap.size+6→¬S j:=fun j hj hs=>by have:=hS j hs;omega
 obtain⟨v,hv⟩:=h.nn;obtain⟨l1,l2,l3⟩:=h.lt
 exact⟨h.below.trans (k.below h.below.size (fun j hj hs=>q j (by omega) hs)),h.c.keep k (q _ (by omega)),h.h.keep k (q _ (by omega)),h.sq.keep k (q _ (by omega)),⟨v,hv.keep k (q _ (by omega))⟩,
  h.led.keep k (q _ (by omega)) (q _ (by omega)),h.book.keep k (q _ (by have:=l3 gb (.inl rfl);omega)) (fun b hb hs=>q b (by have:=l3 b (.inr hb);omega) hs),h.c4.keep k (q _ (by omega)),h.c5.keep k (q _ (by omega)),h.lt⟩
theorem FsM.setN{w:World}{G M gb base:Nat}{ps:List Int}{ls:List Ln}{l:List Of}{N:Int}{vb:Value}{x:Of}{W:World}(h:FsM w G M gb base ps ls l N vb x W)(v:Int):FsM w G M gb base ps ls l N vb x (W.setCell ⟨w.heap.size+3,0,none⟩ (.int .i64 v)):=by
 have k:Keep (fun j=>j=w.heap.size+3) W (W.setCell ⟨w.heap.size+3,0,none⟩ (.int .i64 v)):=Keep.setCell (S:=fun j=>j=w.heap.size+3) (Keep.refl _ _) (p:=⟨w.heap.size+3,0,none⟩) (.inl rfl) _;obtain⟨u,hu⟩:=h.nn;obtain⟨l1,l2,l3⟩:=h.lt
 exact⟨h.below.trans (k.below h.below.size (fun j hj hs=>by omega)),h.c.keep k (by omega),h.h.keep k (by omega),h.sq.keep k (by omega),⟨v,hu.set 0 _⟩,
  h.led.keep k (by omega) (by omega),h.book.keep k (by have:=l3 gb (.inl rfl);omega) (fun b hb hs=>by have:=l3 b (.inr hb);omega),h.c4.keep k (by omega),h.c5.keep k (by omega),h.lt⟩
def FsI(w:World)(G M gb base:Nat)(ps:List Int)(ls:List Ln)(l:List Of)(N:Int)(vb:Value)(x:Of)(k:Nat)(W:World):Prop:=
 FsM w G M gb base ps ls l N vb x W∧aA5 ps ls l x.ow x.ow 1099511627776 x.lf (agO l x.sl x.bu x.nu x.de)=aA5 ps ls l x.ow x.ow 1099511627776 x.lf ((agO l x.sl x.bu x.nu x.de).drop k)
def FsX(w:World)(ps:List Int)(ls:List Ln)(l:List Of)(x:Of)(c:Code)(W:World):Prop:=
 c=.ret∧∃s n:Int,Below w.heap.size w W∧Blk W (w.heap.size+2) #[.int .u64 s] 39∧Blk W (w.heap.size+3) #[.int .i64 n] 2∧aA5 ps ls l x.ow x.ow 1099511627776 x.lf (agO l x.sl x.bu x.nu x.de)=some (s,n)
theorem fits_FsI{w:World}{G M gb base:Nat}{ps:List Int}{ls:List Ln}{l:List Of}{N:Int}{vb:Value}{x:Of}{B:Nat}(hB:w.heap.size+6≤B)(k:Nat):Fits B (FsI w G M gb base ps ls l N vb x k):=
 ⟨fun W W' h q=>⟨h.1.keep (pAE (S:=fun _=>False) q) (fun j hj=>hj.elim),h.2⟩,fun W lo o o' h hl hg ho=>⟨h.1.keep (aH2 W o') (fun j hj=>by omega),h.2⟩⟩
theorem fits_FsX{w:World}{ps:List Int}{ls:List Ln}{l:List Of}{x:Of}{B:Nat}(hB:w.heap.size+6≤B)(c:Code):Fits B (FsX w ps ls l x c):=
 ⟨fun W W' ⟨h1,s,n,h2,h3,h4,h5⟩ q=>⟨h1,s,n,h2.trans (q.mono h2.size),h3.below q h3.lt,h4.below q h4.lt,h5⟩,
  fun W lo o o' ⟨h1,s,n,h2,h3,h4,h5⟩ hl hg ho=>⟨h1,s,n,h2.trans (aDm W o' (by omega)),h3.turn hg ho o',h4.turn hg ho o',h5⟩⟩
theorem fs_body(HMy:aDz){w:World}{G M gb base:Nat}{ps:List Int}{ls:List Ln}{l:List Of}{N:Int}{vb:Value}{x:Of}{W:World}{b B m0 lo k:Nat}{o:Of}{c0 c1 c7 c8 c9 c10 c11 c12 c13 c14 c15 c16 c17 c18 c19 c20 c21 c22 c23 c24 c25 c26:Value}
  (hI:LInv ps ls)(hJ:BInv l N)(hx:x.Fits)(hM:FsI w G M gb base ps ls l N vb x k W)(ho:(agO l x.sl x.bu x.nu x.de)[k]? = some o)(hb:Blk W b #[.int .u64 o.se,.int .u8 o.ow,.int .u8 o.sl,.int .u8 o.bu,.int .i64 o.lf,.int .i64 o.nu,.int .i64 o.de] 48)(hB:w.heap.size+6≤B):
  Code.wpIn (Fence.wide.inRound lo) m0 Tryz.prog (((Tryz.f103.body).bind aB0).getD .skip) (aLi B (FsI w G M gb base ps ls l N vb x) (FsX w ps ls l x) (fun k k'=>k'=k+1) k W) ⟨#[c0,c1,(.pointer (some ⟨w.heap.size,0,none⟩)),(.pointer (some ⟨w.heap.size+1,0,none⟩)),(.pointer (some ⟨w.heap.size+2,0,none⟩)),(.pointer (some ⟨w.heap.size+3,0,none⟩)),(.pointer (some ⟨b,0,none⟩)),c7,c8,c9,c10,c11,c12,c13,c14,c15,c16,c17,c18,c19,c20,c21,c22,c23,c24,c25,c26],[]⟩ W:=by
 conv=>arg 4;whnf
 have hk:=(List.getElem?_eq_some_iff.1 ho).1;have hok:(agO l x.sl x.bu x.nu x.de)[k]=o:=(List.getElem?_eq_some_iff.1 ho).2;have hmem:o∈agO l x.sl x.bu x.nu x.de:=by rw[←hok];exact List.getElem_mem hk
 have hse:=hJ.bd o (mem_ag hJ hmem).1;have hn2:=hJ.n2;have CM:=yH (pmayS_any HMy hM.1.led hI hM.1.book hJ o.se x.ow x.ow 1099511627776 x.lf (by omega) hx.ow hx.ow (by unfold In64;decide) hx.lf)
 have HD:Hid (aA5 ps ls l x.ow x.ow 1099511627776 x.lf (agO l x.sl x.bu x.nu x.de)=if 0<mayS ps ls l x.ow x.ow 1099511627776 x.lf o.se then some (o.se,mayS ps ls l x.ow x.ow 1099511627776 x.lf o.se)else aA5 ps ls l x.ow x.ow 1099511627776 x.lf ((agO l x.sl x.bu x.nu x.de).drop (k+1))):=yH (by
  rw[hM.2,List.drop_eq_getElem_cons hk,hok];rfl)
 obtain⟨m,hm⟩:∃m,mayS ps ls l x.ow x.ow 1099511627776 x.lf o.se=m:=⟨_,rfl⟩;rw[hm]at CM HD;have HMM:=yH hM.1;obtain⟨v0,hv0⟩:=hM.1.nn;have KN:=yH hv0;have KB:=yH hb;have HBB:=yH hB;have d1:=hM.1.c.cell 1;have d4:=hM.1.c.cell 4;have dl:=hM.1.c.lt;have h0:=hM.1.h.cell 0;have h1:=hM.1.h.cell 1;have hl:=hM.1.h.lt;have o0:=hb.cell 0;have ol:=hb.lt;simp at d1 d4 h0 h1 o0;clear hk hok hmem hse hn2 hm hI hJ hx hM ho hb hv0 hB HMy
 gi_wp2_with fail
 refine⟨trivial,(fun hh=>(by cases hh)),(CallsIn.inRound lo (callsIn_wide.2 CM.out)).mono ?_⟩;rintro e W1 ⟨rfl,b1⟩;have H1:=yH (HMM.out.keep (pAE (S:=fun _=>False) b1) (fun j hj=>hj.elim));have KN1:=yB KN b1;have KB1:=yB KB b1;have O1:=yH (pAM (B:=B) (pAE (S:=fun _=>False) b1) (fun _ _ h=>h));clear b1 d1 d4 dl h0 h1 hl o0 ol CM HMM KN KB;have n0:=KN1.out.cell 0;have nl:=KN1.out.lt;have fz:=KN1.out.frozen 0;have KN2:=yH (KN1.out.set 0 (.int .i64 m));have KB2:=yH (KB1.out.setOther (a:=⟨w.heap.size+3,0,none⟩) (show ¬b=w.heap.size+3 from fun e=>by have h1:=KB1.out;have h2:=KN1.out;subst e;exact absurd rfl (aG2 h1 h2 (by decide))) (.int .i64 m));have H2:=yH (H1.out.setN m)
 have O2:Hid (aG3 B W (W1.setCell ⟨w.heap.size+3,0,none⟩ (.int .i64 m))):=yH ⟨by simpa using O1.out.size,fun j hj hs=>by
  rw[Below.heap_setCell _ _ _ _ (by show ¬j=w.heap.size+3;have:=HBB.out;omega)];exact O1.out.same j hj hs⟩
 simp at n0;clear H1 KB1 O1;have kb:=KB2.out.cell 0;have kbl:=KB2.out.lt;have s0:=H2.out.sq.cell 0;have sl:=H2.out.sq.lt;have sf:=H2.out.sq.frozen 0;have n2:=KN2.out.cell 0;have n2l:=KN2.out.lt;have n2f:=KN2.out.frozen 0;simp at kb s0 n2
 by_cases hq:0<m
 ·have q1:decide (m > 0)=true:=by simpa using hq
  have q2:decide (0<m)=true:=by simpa using hq
  rw[if_pos hq]at HD;clear hq
  gi_wp2_with fail
  generalize W1.setCell ⟨w.heap.size+3,0,none⟩ (.int .i64 m)=W2 at *;clear n0 nl fz q1 q2 KN1
  have END:Hid (aG3 B W ((W2.setCell ⟨w.heap.size+2,0,none⟩ (.int .u64 o.se)).setCell ⟨w.heap.size+3,0,none⟩ (.int .i64 m)).drew∧FsX w ps ls l x .ret ((W2.setCell ⟨w.heap.size+2,0,none⟩ (.int .u64 o.se)).setCell ⟨w.heap.size+3,0,none⟩ (.int .i64 m)).drew):=yH (by
   have k:Keep (fun j=>j=w.heap.size+2∨j=w.heap.size+3) W2 ((W2.setCell ⟨w.heap.size+2,0,none⟩ (.int .u64 o.se)).setCell ⟨w.heap.size+3,0,none⟩ (.int .i64 m)).drew:=
    ((Keep.setCell (S:=fun j=>j=w.heap.size+2∨j=w.heap.size+3) (Keep.refl _ _) (p:=⟨w.heap.size+2,0,none⟩) (.inl (.inl rfl)) _).setCell (p:=⟨w.heap.size+3,0,none⟩) (.inl (.inr rfl)) _).drew
   refine⟨⟨Nat.le_trans O2.out.size k.size,fun j hj hs=>?_⟩,rfl,o.se,m,H2.out.below.trans (k.below H2.out.below.size (fun j hj hs=>by omega)),?_,?_,HD.out⟩
   ·rw[k.block j (yM hs O2.out.size) (by have:=HBB.out;omega)];exact O2.out.same j hj hs
   ·exact(H2.out.sq.set 0 _).setOther (a:=⟨w.heap.size+3,0,none⟩) (show ¬w.heap.size+2=w.heap.size+3 by omega) _
   exact(KN2.out.setOther (a:=⟨w.heap.size+2,0,none⟩) (show ¬w.heap.size+3=w.heap.size+2 by omega) _).set 0 _)
  clear KN2 KB2 H2 O2
  gi_region
  all_goals
   gi_wp2_with fail
   exact END.out
 have q1:decide (m > 0)=false:=by simpa using hq
 have q2:decide (0<m)=false:=by simpa using hq
 rw[if_neg hq]at HD;clear hq
 gi_wp2_with fail
 exact⟨O2.out,k+1,rfl,H2.out,HD.out⟩
theorem cfirst_any(HMy:aDz){w:World}{G M gb base:Nat}{ps:List Int}{ls:List Ln}{l:List Of}{N:Int}{vb:Value}{x:Of}(hL:LedM w G M ps ls)(hI:LInv ps ls)(hP:PB w base gb l N vb)(hJ:BInv l N)(hx:x.Fits)(hm:mayB x.nu x.de=true):
  Calls Tryz.prog 103 #[.agg #[.int .u64 x.se,.int .u8 x.ow,.int .u8 x.sl,.int .u8 x.bu,.int .i64 x.lf,.int .i64 x.nu,.int .i64 x.de],.agg #[.pointer (some ⟨G,0,none⟩),.pointer (some ⟨gb,0,none⟩)]] w (yR w (.tuple #[.int .u64 ((aA5 ps ls l x.ow x.ow 1099511627776 x.lf (agO l x.sl x.bu x.nu x.de)).getD (0,0)).1,.int .i64 ((aA5 ps ls l x.ow x.ow 1099511627776 x.lf (agO l x.sl x.bu x.nu x.de)).getD (0,0)).2])):=by
 have LT:=And.intro hL.blk.lt (And.intro hL.map.lt (fun b (hb:Foot gb vb b)=>(hP.lt hb).2));have b1:=(Below.refl w.heap.size w).alloc yL (.cells #[.int .u64 x.se,.int .u8 x.ow,.int .u8 x.sl,.int .u8 x.bu,.int .i64 x.lf,.int .i64 x.nu,.int .i64 x.de] 100);have b2:=b1.alloc b1.size (.cells #[.pointer (some ⟨G,0,none⟩),.pointer (some ⟨gb,0,none⟩)] 31);have b3:=b2.alloc b2.size (.cells #[.int .u64 0] 39);have b4:=b3.alloc b3.size (.cells #[.int .i64 0] 2)
 have hM:FsM w G M gb base ps ls l N vb x (((((w.alloc (.cells #[.int .u64 x.se,.int .u8 x.ow,.int .u8 x.sl,.int .u8 x.bu,.int .i64 x.lf,.int .i64 x.nu,.int .i64 x.de] 100)).alloc (.cells #[.pointer (some ⟨G,0,none⟩),.pointer (some ⟨gb,0,none⟩)] 31)).alloc (.cells #[.int .u64 0] 39)).alloc (.cells #[.int .i64 0] 2)).alloc (.cells #[.int .u64 x.se,.int .u8 x.ow,.int .u8 x.sl,.int .u8 x.bu,.int .i64 x.lf,.int .i64 x.nu,.int .i64 x.de] 100) |>.alloc (.cells #[(.pointer (some ⟨gb,0,none⟩))] 29)):=by
  have c1:=(Below.refl ((((w.alloc (.cells #[.int .u64 x.se,.int .u8 x.ow,.int .u8 x.sl,.int .u8 x.bu,.int .i64 x.lf,.int .i64 x.nu,.int .i64 x.de] 100)).alloc (.cells #[.pointer (some ⟨G,0,none⟩),.pointer (some ⟨gb,0,none⟩)] 31)).alloc (.cells #[.int .u64 0] 39)).alloc (.cells #[.int .i64 0] 2)).heap.size ((((w.alloc (.cells #[.int .u64 x.se,.int .u8 x.ow,.int .u8 x.sl,.int .u8 x.bu,.int .i64 x.lf,.int .i64 x.nu,.int .i64 x.de] 100)).alloc (.cells #[.pointer (some ⟨G,0,none⟩),.pointer (some ⟨gb,0,none⟩)] 31)).alloc (.cells #[.int .u64 0] 39)).alloc (.cells #[.int .i64 0] 2))).alloc yL (.cells #[.int .u64 x.se,.int .u8 x.ow,.int .u8 x.sl,.int .u8 x.bu,.int .i64 x.lf,.int .i64 x.nu,.int .i64 x.de] 100);have c2:=c1.alloc c1.size (.cells #[(.pointer (some ⟨gb,0,none⟩))] 29);have b6:=b4.trans (c2.mono b4.size)
  exact⟨b6,(((pAA w #[.int .u64 x.se,.int .u8 x.ow,.int .u8 x.sl,.int .u8 x.bu,.int .i64 x.lf,.int .i64 x.nu,.int .i64 x.de] 100).alloc _).alloc _).alloc _ |>.below c2 (by simp;omega),((pAC (w.alloc (.cells #[.int .u64 x.se,.int .u8 x.ow,.int .u8 x.sl,.int .u8 x.bu,.int .i64 x.lf,.int .i64 x.nu,.int .i64 x.de] 100)) #[.pointer (some ⟨G,0,none⟩),.pointer (some ⟨gb,0,none⟩)] 31 (g:=w.heap.size+1) (by simp)).alloc _).alloc _ |>.below c2 (by simp),((pAC ((w.alloc (.cells #[.int .u64 x.se,.int .u8 x.ow,.int .u8 x.sl,.int .u8 x.bu,.int .i64 x.lf,.int .i64 x.nu,.int .i64 x.de] 100)).alloc (.cells #[.pointer (some ⟨G,0,none⟩),.pointer (some ⟨gb,0,none⟩)] 31)) #[.int .u64 0] 39 (g:=w.heap.size+2) (by simp)).alloc _).below c2 (by simp),
   ⟨0,(pAC (((w.alloc (.cells #[.int .u64 x.se,.int .u8 x.ow,.int .u8 x.sl,.int .u8 x.bu,.int .i64 x.lf,.int .i64 x.nu,.int .i64 x.de] 100)).alloc (.cells #[.pointer (some ⟨G,0,none⟩),.pointer (some ⟨gb,0,none⟩)] 31)).alloc (.cells #[.int .u64 0] 39)) #[.int .i64 0] 2 (g:=w.heap.size+3) (by simp)).below c2 (by simp)⟩,hL.below b6,hP.below b6,(pAC ((((w.alloc (.cells #[.int .u64 x.se,.int .u8 x.ow,.int .u8 x.sl,.int .u8 x.bu,.int .i64 x.lf,.int .i64 x.nu,.int .i64 x.de] 100)).alloc (.cells #[.pointer (some ⟨G,0,none⟩),.pointer (some ⟨gb,0,none⟩)] 31)).alloc (.cells #[.int .u64 0] 39)).alloc (.cells #[.int .i64 0] 2)) #[.int .u64 x.se,.int .u8 x.ow,.int .u8 x.sl,.int .u8 x.bu,.int .i64 x.lf,.int .i64 x.nu,.int .i64 x.de] 100 (g:=w.heap.size+4) (by simp)).alloc _,pAC _ _ _ (by simp),LT⟩
 have B4:=yH b4;have KC:=yH ((((pAA w #[.int .u64 x.se,.int .u8 x.ow,.int .u8 x.sl,.int .u8 x.bu,.int .i64 x.lf,.int .i64 x.nu,.int .i64 x.de] 100).alloc (.cells #[.pointer (some ⟨G,0,none⟩),.pointer (some ⟨gb,0,none⟩)] 31)).alloc (.cells #[.int .u64 0] 39)).alloc (.cells #[.int .i64 0] 2));have KH:=yH (((pAC (w.alloc (.cells #[.int .u64 x.se,.int .u8 x.ow,.int .u8 x.sl,.int .u8 x.bu,.int .i64 x.lf,.int .i64 x.nu,.int .i64 x.de] 100)) #[.pointer (some ⟨G,0,none⟩),.pointer (some ⟨gb,0,none⟩)] 31 (g:=w.heap.size+1) (by simp)).alloc (.cells #[.int .u64 0] 39)).alloc (.cells #[.int .i64 0] 2));have HSZ:Hid (((((w.alloc (.cells #[.int .u64 x.se,.int .u8 x.ow,.int .u8 x.sl,.int .u8 x.bu,.int .i64 x.lf,.int .i64 x.nu,.int .i64 x.de] 100)).alloc (.cells #[.pointer (some ⟨G,0,none⟩),.pointer (some ⟨gb,0,none⟩)] 31)).alloc (.cells #[.int .u64 0] 39)).alloc (.cells #[.int .i64 0] 2)).heap.size=w.heap.size+4):=yH (by simp);have HM:=yH hM;have II:=yH hI;have JJ:=yH hJ;have HX:=yH hx;have HMB:=yH hm;obtain⟨R,hR⟩:∃R,(aA5 ps ls l x.ow x.ow 1099511627776 x.lf (agO l x.sl x.bu x.nu x.de)).getD (0,0)=R:=⟨_,rfl⟩;have HR:=yH hR;rw[hR];clear LT b1 b2 b3 b4 hM hL hI hP hJ hx hm hR;generalize hW:((((w.alloc (.cells #[.int .u64 x.se,.int .u8 x.ow,.int .u8 x.sl,.int .u8 x.bu,.int .i64 x.lf,.int .i64 x.nu,.int .i64 x.de] 100)).alloc (.cells #[.pointer (some ⟨G,0,none⟩),.pointer (some ⟨gb,0,none⟩)] 31)).alloc (.cells #[.int .u64 0] 39)).alloc (.cells #[.int .i64 0] 2))=W at *;have HW:=yH hW;clear hW;have d0:=KC.out.cell 0;have d1:=KC.out.cell 1;have d2:=KC.out.cell 2;have d3:=KC.out.cell 3;have d4:=KC.out.cell 4;have d5:=KC.out.cell 5;have d6:=KC.out.cell 6;have dl:=KC.out.lt;have h0:=KH.out.cell 0;have h1:=KH.out.cell 1;have hl:=KH.out.lt;simp at d0 d1 d2 d3 d4 d5 d6 h0 h1;refine(callsIn_wide (n:=0)).1 ?_;refine callsIn_of_wp_marks Tryz.func103 rfl trivial ?_ rfl;refine wpIn_wide.2 ?_;simp only[Tryz.ntmps103,List.size_toArray,List.length_cons,List.length_nil,Nat.reduceAdd,Nat.reduceSub,Array.replicate_succ,Array.replicate_zero,List.push_toArray,List.append_toArray,List.nil_append,List.cons_append]
 go_upto_region 1 with fail
 rw[HW.out];go_wp2_with fail;refine(aM2 x _ _).mono ?_;rintro e w6 ⟨rfl,rfl⟩;rw[HSZ.out];clear d0 d1 d2 d3 d4 d5 d6 dl h0 h1 hl KC KH;have X6:Hid (((W.alloc (.cells #[.int .u64 x.se,.int .u8 x.ow,.int .u8 x.sl,.int .u8 x.bu,.int .i64 x.lf,.int .i64 x.nu,.int .i64 x.de] 100)).alloc (.cells #[(.pointer (some ⟨gb,0,none⟩))] 29)).heap.size=w.heap.size+6):=yH (by have:=HSZ.out;simp;omega);go_wp2_with fail;generalize hX:(W.alloc (.cells #[.int .u64 x.se,.int .u8 x.ow,.int .u8 x.sl,.int .u8 x.bu,.int .i64 x.lf,.int .i64 x.nu,.int .i64 x.de] 100)).alloc (.cells #[(.pointer (some ⟨gb,0,none⟩))] 29)=X at *;have HXX:=yH hX;clear hX
 refine wp_roundsK (gf:=189) (lb:=#[(.pointer (some ⟨w.heap.size+4,0,none⟩)),(.pointer (some ⟨w.heap.size+5,0,none⟩))]) rfl (enters_of Tryz.func189 (by kernel_rfl) rfl)
  (FsI w G M gb base ps ls l N vb x) (fun k vs _=>∃o:Of,(agO l x.sl x.bu x.nu x.de)[k]? = some o∧vs=#[.agg #[.int .u64 o.se,.int .u8 o.ow,.int .u8 o.sl,.int .u8 o.bu,.int .i64 o.lf,.int .i64 o.nu,.int .i64 o.de]]) (FsX w ps ls l x) (fun k=>(agO l x.sl x.bu x.nu x.de).length≤k) (fun k k'=>k'=k+1)
  (fun k vs a' W'=>∃(o:Of) (b:Nat),(agO l x.sl x.bu x.nu x.de)[k]? = some o∧Blk W' b #[.int .u64 o.se,.int .u8 o.ow,.int .u8 o.sl,.int .u8 o.bu,.int .i64 o.lf,.int .i64 o.nu,.int .i64 o.de] 48∧a'=⟨#[.agg #[.int .u64 x.se,.int .u8 x.ow,.int .u8 x.sl,.int .u8 x.bu,.int .i64 x.lf,.int .i64 x.nu,.int .i64 x.de],.agg #[.pointer (some ⟨G,0,none⟩),.pointer (some ⟨gb,0,none⟩)],(.pointer (some ⟨w.heap.size,0,none⟩)),(.pointer (some ⟨w.heap.size+1,0,none⟩)),(.pointer (some ⟨w.heap.size+2,0,none⟩)),(.pointer (some ⟨w.heap.size+3,0,none⟩)),(.pointer (some ⟨b,0,none⟩)),.agg #[.int .u64 x.se,.int .u8 x.ow,.int .u8 x.sl,.int .u8 x.bu,.int .i64 x.lf,.int .i64 x.nu,.int .i64 x.de],(.pointer (some ⟨w.heap.size+1,1,none⟩)),(.pointer (some ⟨gb,0,none⟩)),.func (.func 189) #[] #[(.pointer (some ⟨w.heap.size+4,0,none⟩)),(.pointer (some ⟨w.heap.size+5,0,none⟩))],.agg #[.int .u64 o.se,.int .u8 o.ow,.int .u8 o.sl,.int .u8 o.bu,.int .i64 o.lf,.int .i64 o.nu,.int .i64 o.de],undef,undef,undef,undef,undef,undef,undef,undef,undef,undef,undef,undef,undef,undef,undef],[]⟩)
  (fun k=>fits_FsI (by rw[X6.out];omega) k) (fun c=>fits_FsX (by rw[X6.out];omega) c)
  (fun k vs a=>⟨fun W1 W2 ⟨o,b,h1,h2,h3⟩ q=>⟨o,b,h1,h2.below q h2.lt,h3⟩,fun W1 lo ob ob' ⟨o,b,h1,h2,h3⟩ _ hg ho=>⟨o,b,h1,h2.turn hg ho ob',h3⟩⟩)
  (fun k vs W' ⟨o,_,h⟩=>by rw[h];rfl) 0
  (aM3 x HX.out HMB.out JJ.out (fun k W' h=>⟨h.1.book,h.1.c4,h.1.c5⟩)) ⟨HM.out,by rw[List.drop_zero]⟩ ?assign ?body ?done ?stop
 case assign=>
  rintro m lo k vs W' K _ ⟨o,ho,rfl⟩ hK
  gi_wp2_with fail
  exact hK _ _ (yZ.alloc yL _) ⟨o,_,ho,pAA _ _ _,rfl⟩
 case body=>
  rintro m0 lo k vs a' W' hW' hM ⟨o,b,ho,hb,rfl⟩;exact fs_body HMy II.out JJ.out HX.out hM ho hb (by rw[X6.out];omega)
 case done=>
  intro D k W' hD hS hM hK;obtain rfl:(0,0)=R:=by rw[←HR.out,hM.2,List.drop_eq_nil_of_le hS];rfl
  obtain⟨v,hv⟩:=hM.1.nn;have s0:=hM.1.sq.cell 0;have sl:=hM.1.sq.lt;have sf:=hM.1.sq.frozen 0;have n0:=hv.cell 0;have nl:=hv.lt;have nf:=hv.frozen 0;simp at s0 n0;have DD:=yH (show w.heap.size+6≤D by have:=X6.out;omega);have HMM:=yH hM.1;have KN:=yH hv;have DK:=yH hK;clear hD hS hM hK hv;go_wp2_with fail;obtain⟨W9,h9⟩:∃W9,W9=(W'.setCell ⟨w.heap.size+2,0,none⟩ (.int .u64 0)).setCell ⟨w.heap.size+3,0,none⟩ (.int .i64 0):=⟨_,rfl⟩
  have k:Keep (fun j=>j=w.heap.size+2∨j=w.heap.size+3) W' W9:=by
   rw[h9];exact(Keep.setCell (S:=fun j=>j=w.heap.size+2∨j=w.heap.size+3) (Keep.refl _ _) (p:=⟨w.heap.size+2,0,none⟩) (.inl (.inl rfl)) _).setCell (p:=⟨w.heap.size+3,0,none⟩) (.inl (.inr rfl)) _
  have e1:W9.heap[D]? = some (.deferred (some [])):=(k.block D (Array.getElem?_eq_some_iff.1 DK.out).1 (by have:=DD.out;omega)).trans DK.out
  have e2:(W9.putObj D (.deferred none)).cell? ⟨w.heap.size+2,0,none⟩=some (.int .u64 0):=by
   rw[World.cell?_of_block (w:=W9) (World.putObj_heap_other (by show ¬w.heap.size+2=D;have:=DD.out;omega)),h9];have:=((HMM.out.sq.set 0 (.int .u64 0)).setOther (a:=⟨w.heap.size+3,0,none⟩) (show ¬w.heap.size+2=w.heap.size+3 by omega) (.int .i64 0)).cell 0;simpa using this
  have e3:(W9.putObj D (.deferred none)).cell? ⟨w.heap.size+3,0,none⟩=some (.int .i64 0):=by
   rw[World.cell?_of_block (w:=W9) (World.putObj_heap_other (by show ¬w.heap.size+3=D;have:=DD.out;omega)),h9];have:=((KN.out.setOther (a:=⟨w.heap.size+2,0,none⟩) (show ¬w.heap.size+3=w.heap.size+2 by omega) (.int .u64 0)).set 0 (.int .i64 0)).cell 0;simpa using this
  have e4:Below w.heap.size w (W9.putObj D (.deferred none)):=(HMM.out.below.trans (k.below HMM.out.below.size (fun j hj hs=>by omega))).trans (aDm _ _ (by have:=DD.out;omega));rw[←h9];refine⟨by simp,.inl ⟨_,_,rfl,run_takeDeferred e1,?_⟩⟩;exact⟨_,by simp[results,Tryz.results103,go_sem,e2,e3],rfl,e4⟩
 rintro D c W' hD ⟨rfl,s,n,hB,hs,hn,hf⟩ hK;obtain rfl:(s,n)=R:=by rw[←HR.out,hf];rfl
 have DD:=yH (show w.heap.size+6≤D by have:=X6.out;omega);have DK:=yH hK;have HB:=yH hB;have KS:=yH hs;have KN:=yH hn;clear hD hK hB hs hn hf;go_wp2_with fail
 have e2:(W'.putObj D (.deferred none)).cell? ⟨w.heap.size+2,0,none⟩=some (.int .u64 s):=by
  rw[World.cell?_of_block (w:=W') (World.putObj_heap_other (by show ¬w.heap.size+2=D;have:=DD.out;omega))];have:=KS.out.cell 0;simpa using this
 have e3:(W'.putObj D (.deferred none)).cell? ⟨w.heap.size+3,0,none⟩=some (.int .i64 n):=by
  rw[World.cell?_of_block (w:=W') (World.putObj_heap_other (by show ¬w.heap.size+3=D;have:=DD.out;omega))];have:=KN.out.cell 0;simpa using this
 have e4:Below w.heap.size w (W'.putObj D (.deferred none)):=HB.out.trans (aDm _ _ (by have:=DD.out;omega));refine⟨by simp,.inl ⟨_,_,rfl,run_takeDeferred DK.out,?_⟩⟩;exact⟨_,by simp[results,Tryz.results103,go_sem,e2,e3],rfl,e4⟩
end Go.Proofs.YtaeocliklpcgmaaGreat
namespace Go.Proofs.YtaeocliklpcgmaaGreat
open Go.RowKit
theorem aGo{P:Program}(w:World){ops:Array Oper}{rest:List Oper}{o:Oper}{a:Act}{Q:Exit→Act→World→Prop}(hgd:o.guard=none)(s x:Operand)(t e:TypeId)
  (ho:o.op=.call { callee:=.builtin .append,args:=#[s,x],argTypes:=#[t,t] }){z:Value}{sz by':Nat}(ht:P.underlying t=some (.slice e))(hinf:(P.info? e).map (fun i=>(i.zero,i.size,i.bytes))=some (some z,sz,by'))(hzs:z.cells.size=sz)(h0:0<sz)(hby:by'≤1000)
  (base:Nat)(v:Value)(n:Nat)(xs:List Value)(hs:a.eval s=v)(hown:w.ownsRow base e sz v n xs)(g c:Nat)(vs:List Value)(hvs:vs.length=sz)(hx:a.eval x=.slice (some ⟨g,0,none⟩) 1 c)(hy:Blk w g vs.toArray e)(h1:∀u∈vs,u.oneCell'=true)(hlen:n≤100000)(hbase:base≤w.heap.size)
  (h:∀v' w',w'.ownsRow base e sz v' (n+1) (xs++vs)→w.grownBy w' v.ownBlock→wpList P ops Q rest (a.put o.dst v') w'):wpList P ops Q (o::rest) a w:=by
 obtain⟨i0,hi,hz0,hz1,hz2⟩:=info_parts hinf;refine wpList_append_own w hgd s x t ho base e i0 z sz by' ht hi hz0 hz1 hz2 hzs h0 v n xs hs hown ⟨g,0,none⟩ 1 c vs hx (by rw[hvs];omega) ?_ h1 (by unfold maxLen;omega) ?_ hbase ?_
 ·intro j u hj;rw[Go.WideShapes.add_plain,Nat.zero_add,hy.cell j];simpa using hj
 ·refine Nat.le_trans (Nat.mul_le_mul_left _ hby) ?_;omega
 intro v' w' h2 h3 _;exact h v' w' h2 h3
def signed(neg:Bool)(x:Nat):Int:=if neg then -(x:Int)else x
def Fl.vals(tk pt:Int)(f:Fl):List Value:=[.int .u64 f.se,.int .u8 tk,.int .u8 pt,.int .i64 f.got,.int .i64 f.gi]
def aEs(tk pt:Int)(fs:List Fl):List Value:=fs.flatMap (Fl.vals tk pt)
theorem aLo(tk pt:Int)(fs:List Fl)(f:Fl):aEs tk pt (fs++[f])=aEs tk pt fs++f.vals tk pt:=by
 unfold aEs;rw[List.flatMap_append];simp
theorem clipFl_any{w:World}{base:Nat}{v:Value}{n:Nat}{xs:List Value}(h:w.ownsRow base 73 5 v n xs):
  Calls Tryz.prog 104 #[v] w (aHb w base 73 5 n v xs):=by
 rcases h.2 with⟨rfl,h0⟩|⟨g,cap,cur,rfl,hbase,hb,h1,h2,h3,h4⟩
 ·subst h0;have hr:=aBc (P:=Tryz.prog) w 38 73 5 Tryz.underlying38 (Tryz.sizeOf73 w);have hx:=h.1;have hx2:=yH hx;clear h hx;go_enter Tryz.func104,Tryz.ntmps104;go_wp2;refine bodyPost_ret (v:=.slice none 0 0) (by simp[results,Tryz.results104,go_sem]) rfl ?_;exact⟨_,rfl,⟨hx2.out,.inl ⟨rfl,rfl⟩⟩,rfl,rfl⟩
 have hr:=aCa (P:=Tryz.prog) w 38 73 5 Tryz.underlying38 (Tryz.sizeOf73 w) g n cap h1;have HR:=yH (show aBq w base 73 5 (.slice (some ⟨g,0,none⟩) n n) n xs from⟨h.1,.inr ⟨g,cur,rfl,hbase,hb,by omega,by omega,h4⟩⟩);clear h hb h4 h3;unfold maxLen at h2;go_enter Tryz.func104,Tryz.ntmps104;go_wp2;refine bodyPost_ret (v:=.slice (some ⟨g,0,none⟩) n n) (by simp[results,Tryz.results104,go_sem]) rfl ?_;exact⟨_,rfl,HR.out,rfl,rfl⟩
end Go.Proofs.YtaeocliklpcgmaaGreat
