/-
  Pieces of one proof, without what is not wanted: Fst, Ref01g, Ref01h, Given11, PSwap3.
-/
import Derived.Test.YtngnfdnfpiiclaaGreatV01
import Derived.Test.YtngnfdnfpiiclaaGreatV03
import Derived.Test.YtngnfdnfpiiclaaGreatV05
import Derived.Test.YtngnfdnfpiiclaaGreatV06
import Derived.Test.YtngnfdnfpiiclaaGreatV12
import Derived.Test.YtngnfdnfpiiclaaGreatV13
import Derived.Test.YtngnfdnfpiiclaaGreatV16
import Derived.Test.YtngnfdnfpiiclaaGreatV18
import Derived.Test.YtngnfdnfpiiclaaGreatV21
import Derived.Test.YtngnfdnfpiiclaaGreatV24
set_option linter.unusedSimpArgs false
set_option linter.unusedVariables false
namespace Go.Proofs.YtngnfdnfpiiclaaGreat
open Go.RowKit
attribute [local go_sem] Oper.semAt_some
structure FsM (w:World) (G M gb base:Nat) (ps:List Int) (ls:List Ln) (l:List Of) (N:Int) (vb:Value) (x:Of) (W:World):Prop where
 below:Below w.heap.size w W
 c:Blk W w.heap.size #[.int .u64 x.se,.int .u8 x.ow,.int .u8 x.sl,.int .u8 x.bu,.int .i64 x.lf,.int .i64 x.nu,.int .i64 x.de] 294
 h:Blk W (w.heap.size + 1) #[.pointer (some ⟨G,0,none⟩),.pointer (some ⟨gb,0,none⟩)] 80
 sq:Blk W (w.heap.size + 2) #[.int .u64 0] 44
 nn:∃ v:Int,Blk W (w.heap.size + 3) #[.int .i64 v] 2
 led:LedM W G M ps ls
 book:PB W base gb l N vb
 c4:Blk W (w.heap.size + 4) #[.int .u64 x.se,.int .u8 x.ow,.int .u8 x.sl,.int .u8 x.bu,.int .i64 x.lf,.int .i64 x.nu,.int .i64 x.de] 294
 c5:Blk W (w.heap.size + 5) #[(.pointer (some ⟨gb,0,none⟩))] 78
 lt:G<w.heap.size∧M<w.heap.size∧∀ b,Foot gb vb b→b<w.heap.size
theorem FsM.keep {S:Nat→Prop} {w:World} {G M gb base:Nat} {ps:List Int} {ls:List Ln} {l:List Of} {N:Int} {vb:Value} {x:Of} {W W':World} (h:FsM w G M gb base ps ls l N vb x W) (k:Keep S W W') (hS:∀ j,S j→w.heap.size + 6≤j):FsM w G M gb base ps ls l N vb x W':=by
 have q:∀ j,j<w.heap.size + 6→¬ S j:=fun j hj hs=>by have:=hS j hs; omega
 obtain ⟨v,hv⟩:=h.nn
 obtain ⟨l1,l2,l3⟩:=h.lt
 exact ⟨h.below.trans (k.below h.below.size (fun j hj hs=>q j (by omega) hs)),h.c.keep k (q _ (by omega)),h.h.keep k (q _ (by omega)),h.sq.keep k (q _ (by omega)),⟨v,hv.keep k (q _ (by omega))⟩,
  h.led.keep k (q _ (by omega)) (q _ (by omega)),h.book.keep k (q _ (by have:=l3 gb (.inl rfl); omega)) (fun b hb hs=>q b (by have:=l3 b (.inr hb); omega) hs),h.c4.keep k (q _ (by omega)),h.c5.keep k (q _ (by omega)),h.lt⟩
theorem FsM.setN {w:World} {G M gb base:Nat} {ps:List Int} {ls:List Ln} {l:List Of} {N:Int} {vb:Value} {x:Of} {W:World} (h:FsM w G M gb base ps ls l N vb x W) (v:Int):FsM w G M gb base ps ls l N vb x (W.setCell ⟨w.heap.size + 3,0,none⟩ (.int .i64 v)):=by
 have k:Keep (fun j=>j=w.heap.size + 3) W (W.setCell ⟨w.heap.size + 3,0,none⟩ (.int .i64 v)):=Keep.setCell (S:=fun j=>j=w.heap.size + 3) (Keep.refl _ _) (p:=⟨w.heap.size + 3,0,none⟩) (.inl rfl) _
 obtain ⟨u,hu⟩:=h.nn
 obtain ⟨l1,l2,l3⟩:=h.lt
 exact ⟨h.below.trans (k.below h.below.size (fun j hj hs=>by omega)),h.c.keep k (by omega),h.h.keep k (by omega),h.sq.keep k (by omega),⟨v,hu.set 0 _⟩,
  h.led.keep k (by omega) (by omega),h.book.keep k (by have:=l3 gb (.inl rfl); omega) (fun b hb hs=>by have:=l3 b (.inr hb); omega),h.c4.keep k (by omega),h.c5.keep k (by omega),h.lt⟩
def FsI (w:World) (G M gb base:Nat) (ps:List Int) (ls:List Ln) (l:List Of) (N:Int) (vb:Value) (x:Of) (k:Nat) (W:World):Prop :=
 FsM w G M gb base ps ls l N vb x W∧firstS ps ls l x.ow x.ow 1099511627776 x.lf (agO l x.sl x.bu x.nu x.de)=firstS ps ls l x.ow x.ow 1099511627776 x.lf ((agO l x.sl x.bu x.nu x.de).drop k)
def FsX (w:World) (ps:List Int) (ls:List Ln) (l:List Of) (x:Of) (c:Code) (W:World):Prop :=
 c=.ret∧∃ s n:Int,Below w.heap.size w W∧Blk W (w.heap.size + 2) #[.int .u64 s] 44∧Blk W (w.heap.size + 3) #[.int .i64 n] 2∧firstS ps ls l x.ow x.ow 1099511627776 x.lf (agO l x.sl x.bu x.nu x.de)=some (s,n)
theorem fits_FsI {w:World} {G M gb base:Nat} {ps:List Int} {ls:List Ln} {l:List Of} {N:Int} {vb:Value} {x:Of} {B:Nat} (hB:w.heap.size + 6≤B) (k:Nat):Fits B (FsI w G M gb base ps ls l N vb x k) :=
 ⟨fun W W' h q=>⟨h.1.keep (Keep.of_below (S:=fun _=>False) q) (fun j hj=>hj.elim),h.2⟩,fun W lo o o' h hl hg ho=>⟨h.1.keep (keep_turn W o') (fun j hj=>by omega),h.2⟩⟩
theorem fits_FsX {w:World} {ps:List Int} {ls:List Ln} {l:List Of} {x:Of} {B:Nat} (hB:w.heap.size + 6≤B) (c:Code):Fits B (FsX w ps ls l x c) :=
 ⟨fun W W' ⟨h1,s,n,h2,h3,h4,h5⟩ q=>⟨h1,s,n,h2.trans (q.mono h2.size),h3.below q h3.lt,h4.below q h4.lt,h5⟩,
  fun W lo o o' ⟨h1,s,n,h2,h3,h4,h5⟩ hl hg ho=>⟨h1,s,n,h2.trans (below_turn W o' (by omega)),h3.turn hg ho o',h4.turn hg ho o',h5⟩⟩
set_option maxHeartbeats 8000000 in
set_option maxRecDepth 100000 in
theorem fs_body (HMy:FMayProg) {w:World} {G M gb base:Nat} {ps:List Int} {ls:List Ln} {l:List Of} {N:Int} {vb:Value} {x:Of} {W:World} {b B m0 lo k:Nat} {o:Of} {c0 c1 c7 c8 c9 c10 c11 c12 c13 c14 c15 c16 c17 c18 c19 c20 c21 c22 c23 c24 c25 c26:Value}
  (hI:LInv ps ls) (hJ:BInv l N) (hx:x.Fits) (hM:FsI w G M gb base ps ls l N vb x k W) (ho:(agO l x.sl x.bu x.nu x.de)[k]? = some o) (hb:Blk W b #[.int .u64 o.se,.int .u8 o.ow,.int .u8 o.sl,.int .u8 o.bu,.int .i64 o.lf,.int .i64 o.nu,.int .i64 o.de] 75) (hB:w.heap.size + 6≤B) :
  Code.wpIn (Fence.wide.inRound lo) m0 Tryz.prog (((Tryz.f242.body).bind roundBody).getD .skip) (roundEndK B (FsI w G M gb base ps ls l N vb x) (FsX w ps ls l x) (fun k k'=>k'=k + 1) k W) ⟨#[c0,c1,(.pointer (some ⟨w.heap.size,0,none⟩)),(.pointer (some ⟨w.heap.size + 1,0,none⟩)),(.pointer (some ⟨w.heap.size + 2,0,none⟩)),(.pointer (some ⟨w.heap.size + 3,0,none⟩)),(.pointer (some ⟨b,0,none⟩)),c7,c8,c9,c10,c11,c12,c13,c14,c15,c16,c17,c18,c19,c20,c21,c22,c23,c24,c25,c26],[]⟩ W:=by
 conv=>arg 4; whnf
 have hk:=(List.getElem?_eq_some_iff.1 ho).1
 have hok:(agO l x.sl x.bu x.nu x.de)[k]=o:=(List.getElem?_eq_some_iff.1 ho).2
 have hmem:o ∈ agO l x.sl x.bu x.nu x.de:=by rw [← hok]; exact List.getElem_mem hk
 have hse:=hJ.bd o (mem_ag hJ hmem).1
 have hn2:=hJ.n2
 have CM:=Lib.hid (pmayS_any HMy hM.1.led hI hM.1.book hJ o.se x.ow x.ow 1099511627776 x.lf (by omega) hx.ow hx.ow (by unfold In64; decide) hx.lf)
 have HD:Hid (firstS ps ls l x.ow x.ow 1099511627776 x.lf (agO l x.sl x.bu x.nu x.de)=if 0<mayS ps ls l x.ow x.ow 1099511627776 x.lf o.se then some (o.se,mayS ps ls l x.ow x.ow 1099511627776 x.lf o.se) else firstS ps ls l x.ow x.ow 1099511627776 x.lf ((agO l x.sl x.bu x.nu x.de).drop (k + 1))):=Lib.hid (by
  rw [hM.2,List.drop_eq_getElem_cons hk,hok]
  rfl)
 obtain ⟨m,hm⟩:∃ m,mayS ps ls l x.ow x.ow 1099511627776 x.lf o.se=m:=⟨_,rfl⟩
 rw [hm] at CM HD
 have HMM:=Lib.hid hM.1
 obtain ⟨v0,hv0⟩:=hM.1.nn
 have KN:=Lib.hid hv0
 have KB:=Lib.hid hb
 have HBB:=Lib.hid hB
 have d1:=hM.1.c.cell 1; have d4:=hM.1.c.cell 4
 have dl:=hM.1.c.lt
 have h0:=hM.1.h.cell 0; have h1:=hM.1.h.cell 1
 have hl:=hM.1.h.lt
 have o0:=hb.cell 0
 have ol:=hb.lt
 simp at d1 d4 h0 h1 o0
 clear hk hok hmem hse hn2 hm hI hJ hx hM ho hb hv0 hB HMy
 gi_wp2_with fail
 refine ⟨trivial,(fun hh=>(by cases hh)),(CallsIn.inRound lo (callsIn_wide.2 CM.out)).mono ?_⟩
 rintro e W1 ⟨rfl,b1⟩
 have H1:=Lib.hid (HMM.out.keep (Keep.of_below (S:=fun _=>False) b1) (fun j hj=>hj.elim))
 have KN1:=Lib.hid (KN.out.below b1 KN.out.lt)
 have KB1:=Lib.hid (KB.out.below b1 KB.out.lt)
 have O1:=Lib.hid (OldAll.of_keep (B:=B) (Keep.of_below (S:=fun _=>False) b1) (fun _ _ h=>h))
 clear b1 d1 d4 dl h0 h1 hl o0 ol CM HMM KN KB
 have n0:=KN1.out.cell 0
 have nl:=KN1.out.lt
 have fz:=KN1.out.frozen 0
 have KN2:=Lib.hid (KN1.out.set 0 (.int .i64 m))
 have KB2:=Lib.hid (KB1.out.setOther (a:=⟨w.heap.size + 3,0,none⟩) (show ¬ b=w.heap.size + 3 from fun e=>by have h1:=KB1.out; have h2:=KN1.out; subst e; exact absurd rfl (blk_ne h1 h2 (by decide))) (.int .i64 m))
 have H2:=Lib.hid (H1.out.setN m)
 have O2:Hid (OldAll B W (W1.setCell ⟨w.heap.size + 3,0,none⟩ (.int .i64 m))):=Lib.hid ⟨by simpa using O1.out.size,fun j hj hs=>by
  rw [Below.heap_setCell _ _ _ _ (by show ¬ j=w.heap.size + 3; have:=HBB.out; omega)]
  exact O1.out.same j hj hs⟩
 simp at n0
 clear H1 KB1 O1
 have kb:=KB2.out.cell 0
 have kbl:=KB2.out.lt
 have s0:=H2.out.sq.cell 0
 have sl:=H2.out.sq.lt
 have sf:=H2.out.sq.frozen 0
 have n2:=KN2.out.cell 0
 have n2l:=KN2.out.lt
 have n2f:=KN2.out.frozen 0
 simp at kb s0 n2
 by_cases hq:0<m
 ·have q1:decide (m > 0)=true:=by simpa using hq
  have q2:decide (0<m)=true:=by simpa using hq
  rw [if_pos hq] at HD
  clear hq
  gi_wp2_with fail
  generalize W1.setCell ⟨w.heap.size + 3,0,none⟩ (.int .i64 m)=W2 at *
  clear n0 nl fz q1 q2 KN1
  have END:Hid (OldAll B W ((W2.setCell ⟨w.heap.size + 2,0,none⟩ (.int .u64 o.se)).setCell ⟨w.heap.size + 3,0,none⟩ (.int .i64 m)).drew∧FsX w ps ls l x .ret ((W2.setCell ⟨w.heap.size + 2,0,none⟩ (.int .u64 o.se)).setCell ⟨w.heap.size + 3,0,none⟩ (.int .i64 m)).drew):=Lib.hid (by
   have k:Keep (fun j=>j=w.heap.size + 2∨j=w.heap.size + 3) W2 ((W2.setCell ⟨w.heap.size + 2,0,none⟩ (.int .u64 o.se)).setCell ⟨w.heap.size + 3,0,none⟩ (.int .i64 m)).drew :=
    ((Keep.setCell (S:=fun j=>j=w.heap.size + 2∨j=w.heap.size + 3) (Keep.refl _ _) (p:=⟨w.heap.size + 2,0,none⟩) (.inl (.inl rfl)) _).setCell (p:=⟨w.heap.size + 3,0,none⟩) (.inl (.inr rfl)) _).drew
   refine ⟨⟨Nat.le_trans O2.out.size k.size,fun j hj hs=>?_⟩,rfl,o.se,m,H2.out.below.trans (k.below H2.out.below.size (fun j hj hs=>by omega)),?_,?_,HD.out⟩
   ·rw [k.block j (Nat.lt_of_lt_of_le hs O2.out.size) (by have:=HBB.out; omega)]
    exact O2.out.same j hj hs
   ·exact (H2.out.sq.set 0 _).setOther (a:=⟨w.heap.size + 3,0,none⟩) (show ¬ w.heap.size + 2=w.heap.size + 3 by omega) _
   ·exact (KN2.out.setOther (a:=⟨w.heap.size + 2,0,none⟩) (show ¬ w.heap.size + 3=w.heap.size + 2 by omega) _).set 0 _)
  clear KN2 KB2 H2 O2
  gi_region
  all_goals
   gi_wp2_with fail
   exact END.out
 ·have q1:decide (m > 0)=false:=by simpa using hq
  have q2:decide (0<m)=false:=by simpa using hq
  rw [if_neg hq] at HD
  clear hq
  gi_wp2_with fail
  exact ⟨O2.out,k + 1,rfl,H2.out,HD.out⟩
set_option maxHeartbeats 16000000 in
set_option maxRecDepth 100000 in
theorem cfirst_any (HMy:FMayProg) {w:World} {G M gb base:Nat} {ps:List Int} {ls:List Ln} {l:List Of} {N:Int} {vb:Value} {x:Of} (hL:LedM w G M ps ls) (hI:LInv ps ls) (hP:PB w base gb l N vb) (hJ:BInv l N) (hx:x.Fits) (hm:mayB x.nu x.de=true) :
  Calls Tryz.prog 242 #[.agg #[.int .u64 x.se,.int .u8 x.ow,.int .u8 x.sl,.int .u8 x.bu,.int .i64 x.lf,.int .i64 x.nu,.int .i64 x.de],.agg #[.pointer (some ⟨G,0,none⟩),.pointer (some ⟨gb,0,none⟩)]] w fun e w'=>e=.returned (.tuple #[.int .u64 ((firstS ps ls l x.ow x.ow 1099511627776 x.lf (agO l x.sl x.bu x.nu x.de)).getD (0,0)).1,.int .i64 ((firstS ps ls l x.ow x.ow 1099511627776 x.lf (agO l x.sl x.bu x.nu x.de)).getD (0,0)).2])∧Below w.heap.size w w':=by
 have LT:=And.intro hL.blk.lt (And.intro hL.map.lt (fun b (hb:Foot gb vb b)=>(hP.lt hb).2))
 have b1:=(Below.refl w.heap.size w).alloc (Nat.le_refl _) (.cells #[.int .u64 x.se,.int .u8 x.ow,.int .u8 x.sl,.int .u8 x.bu,.int .i64 x.lf,.int .i64 x.nu,.int .i64 x.de] 294)
 have b2:=b1.alloc b1.size (.cells #[.pointer (some ⟨G,0,none⟩),.pointer (some ⟨gb,0,none⟩)] 80)
 have b3:=b2.alloc b2.size (.cells #[.int .u64 0] 44)
 have b4:=b3.alloc b3.size (.cells #[.int .i64 0] 2)
 have hM:FsM w G M gb base ps ls l N vb x (((((w.alloc (.cells #[.int .u64 x.se,.int .u8 x.ow,.int .u8 x.sl,.int .u8 x.bu,.int .i64 x.lf,.int .i64 x.nu,.int .i64 x.de] 294)).alloc (.cells #[.pointer (some ⟨G,0,none⟩),.pointer (some ⟨gb,0,none⟩)] 80)).alloc (.cells #[.int .u64 0] 44)).alloc (.cells #[.int .i64 0] 2)).alloc (.cells #[.int .u64 x.se,.int .u8 x.ow,.int .u8 x.sl,.int .u8 x.bu,.int .i64 x.lf,.int .i64 x.nu,.int .i64 x.de] 294) |>.alloc (.cells #[(.pointer (some ⟨gb,0,none⟩))] 78)):=by
  have c1:=(Below.refl ((((w.alloc (.cells #[.int .u64 x.se,.int .u8 x.ow,.int .u8 x.sl,.int .u8 x.bu,.int .i64 x.lf,.int .i64 x.nu,.int .i64 x.de] 294)).alloc (.cells #[.pointer (some ⟨G,0,none⟩),.pointer (some ⟨gb,0,none⟩)] 80)).alloc (.cells #[.int .u64 0] 44)).alloc (.cells #[.int .i64 0] 2)).heap.size ((((w.alloc (.cells #[.int .u64 x.se,.int .u8 x.ow,.int .u8 x.sl,.int .u8 x.bu,.int .i64 x.lf,.int .i64 x.nu,.int .i64 x.de] 294)).alloc (.cells #[.pointer (some ⟨G,0,none⟩),.pointer (some ⟨gb,0,none⟩)] 80)).alloc (.cells #[.int .u64 0] 44)).alloc (.cells #[.int .i64 0] 2))).alloc (Nat.le_refl _) (.cells #[.int .u64 x.se,.int .u8 x.ow,.int .u8 x.sl,.int .u8 x.bu,.int .i64 x.lf,.int .i64 x.nu,.int .i64 x.de] 294)
  have c2:=c1.alloc c1.size (.cells #[(.pointer (some ⟨gb,0,none⟩))] 78)
  have b6:=b4.trans (c2.mono b4.size)
  exact ⟨b6,(((Blk.new w #[.int .u64 x.se,.int .u8 x.ow,.int .u8 x.sl,.int .u8 x.bu,.int .i64 x.lf,.int .i64 x.nu,.int .i64 x.de] 294).alloc _).alloc _).alloc _ |>.below c2 (by simp; omega),((Blk.newAt (w.alloc (.cells #[.int .u64 x.se,.int .u8 x.ow,.int .u8 x.sl,.int .u8 x.bu,.int .i64 x.lf,.int .i64 x.nu,.int .i64 x.de] 294)) #[.pointer (some ⟨G,0,none⟩),.pointer (some ⟨gb,0,none⟩)] 80 (g:=w.heap.size + 1) (by simp)).alloc _).alloc _ |>.below c2 (by simp),((Blk.newAt ((w.alloc (.cells #[.int .u64 x.se,.int .u8 x.ow,.int .u8 x.sl,.int .u8 x.bu,.int .i64 x.lf,.int .i64 x.nu,.int .i64 x.de] 294)).alloc (.cells #[.pointer (some ⟨G,0,none⟩),.pointer (some ⟨gb,0,none⟩)] 80)) #[.int .u64 0] 44 (g:=w.heap.size + 2) (by simp)).alloc _).below c2 (by simp),
   ⟨0,(Blk.newAt (((w.alloc (.cells #[.int .u64 x.se,.int .u8 x.ow,.int .u8 x.sl,.int .u8 x.bu,.int .i64 x.lf,.int .i64 x.nu,.int .i64 x.de] 294)).alloc (.cells #[.pointer (some ⟨G,0,none⟩),.pointer (some ⟨gb,0,none⟩)] 80)).alloc (.cells #[.int .u64 0] 44)) #[.int .i64 0] 2 (g:=w.heap.size + 3) (by simp)).below c2 (by simp)⟩,hL.below b6,hP.below b6,(Blk.newAt ((((w.alloc (.cells #[.int .u64 x.se,.int .u8 x.ow,.int .u8 x.sl,.int .u8 x.bu,.int .i64 x.lf,.int .i64 x.nu,.int .i64 x.de] 294)).alloc (.cells #[.pointer (some ⟨G,0,none⟩),.pointer (some ⟨gb,0,none⟩)] 80)).alloc (.cells #[.int .u64 0] 44)).alloc (.cells #[.int .i64 0] 2)) #[.int .u64 x.se,.int .u8 x.ow,.int .u8 x.sl,.int .u8 x.bu,.int .i64 x.lf,.int .i64 x.nu,.int .i64 x.de] 294 (g:=w.heap.size + 4) (by simp)).alloc _,Blk.newAt _ _ _ (by simp),LT⟩
 have B4:=Lib.hid b4
 have KC:=Lib.hid ((((Blk.new w #[.int .u64 x.se,.int .u8 x.ow,.int .u8 x.sl,.int .u8 x.bu,.int .i64 x.lf,.int .i64 x.nu,.int .i64 x.de] 294).alloc (.cells #[.pointer (some ⟨G,0,none⟩),.pointer (some ⟨gb,0,none⟩)] 80)).alloc (.cells #[.int .u64 0] 44)).alloc (.cells #[.int .i64 0] 2))
 have KH:=Lib.hid (((Blk.newAt (w.alloc (.cells #[.int .u64 x.se,.int .u8 x.ow,.int .u8 x.sl,.int .u8 x.bu,.int .i64 x.lf,.int .i64 x.nu,.int .i64 x.de] 294)) #[.pointer (some ⟨G,0,none⟩),.pointer (some ⟨gb,0,none⟩)] 80 (g:=w.heap.size + 1) (by simp)).alloc (.cells #[.int .u64 0] 44)).alloc (.cells #[.int .i64 0] 2))
 have HSZ:Hid (((((w.alloc (.cells #[.int .u64 x.se,.int .u8 x.ow,.int .u8 x.sl,.int .u8 x.bu,.int .i64 x.lf,.int .i64 x.nu,.int .i64 x.de] 294)).alloc (.cells #[.pointer (some ⟨G,0,none⟩),.pointer (some ⟨gb,0,none⟩)] 80)).alloc (.cells #[.int .u64 0] 44)).alloc (.cells #[.int .i64 0] 2)).heap.size=w.heap.size + 4):=Lib.hid (by simp)
 have HM:=Lib.hid hM
 have II:=Lib.hid hI
 have JJ:=Lib.hid hJ
 have HX:=Lib.hid hx
 have HMB:=Lib.hid hm
 obtain ⟨R,hR⟩:∃ R,(firstS ps ls l x.ow x.ow 1099511627776 x.lf (agO l x.sl x.bu x.nu x.de)).getD (0,0)=R:=⟨_,rfl⟩
 have HR:=Lib.hid hR
 rw [hR]
 clear LT b1 b2 b3 b4 hM hL hI hP hJ hx hm hR
 generalize hW:((((w.alloc (.cells #[.int .u64 x.se,.int .u8 x.ow,.int .u8 x.sl,.int .u8 x.bu,.int .i64 x.lf,.int .i64 x.nu,.int .i64 x.de] 294)).alloc (.cells #[.pointer (some ⟨G,0,none⟩),.pointer (some ⟨gb,0,none⟩)] 80)).alloc (.cells #[.int .u64 0] 44)).alloc (.cells #[.int .i64 0] 2))=W at *
 have HW:=Lib.hid hW
 clear hW
 have d0:=KC.out.cell 0; have d1:=KC.out.cell 1; have d2:=KC.out.cell 2; have d3:=KC.out.cell 3; have d4:=KC.out.cell 4; have d5:=KC.out.cell 5; have d6:=KC.out.cell 6
 have dl:=KC.out.lt
 have h0:=KH.out.cell 0; have h1:=KH.out.cell 1
 have hl:=KH.out.lt
 simp at d0 d1 d2 d3 d4 d5 d6 h0 h1
 refine (callsIn_wide (n:=0)).1 ?_
 refine callsIn_of_wp_marks Tryz.func242 rfl trivial ?_ rfl
 refine wpIn_wide.2 ?_
 simp only [Tryz.ntmps242,List.size_toArray,List.length_cons,List.length_nil,Nat.reduceAdd,Nat.reduceSub,Array.replicate_succ,Array.replicate_zero,List.push_toArray,List.append_toArray,List.nil_append,List.cons_append]
 go_upto_region 1 with fail
 rw [HW.out]
 go_wp2_with fail
 refine (against_any x _ _).mono ?_
 rintro e w6 ⟨rfl,rfl⟩
 rw [HSZ.out]
 clear d0 d1 d2 d3 d4 d5 d6 dl h0 h1 hl KC KH
 have X6:Hid (((W.alloc (.cells #[.int .u64 x.se,.int .u8 x.ow,.int .u8 x.sl,.int .u8 x.bu,.int .i64 x.lf,.int .i64 x.nu,.int .i64 x.de] 294)).alloc (.cells #[(.pointer (some ⟨gb,0,none⟩))] 78)).heap.size=w.heap.size + 6):=Lib.hid (by have:=HSZ.out; simp; omega)
 go_wp2_with fail
 generalize hX:(W.alloc (.cells #[.int .u64 x.se,.int .u8 x.ow,.int .u8 x.sl,.int .u8 x.bu,.int .i64 x.lf,.int .i64 x.nu,.int .i64 x.de] 294)).alloc (.cells #[(.pointer (some ⟨gb,0,none⟩))] 78)=X at *
 have HXX:=Lib.hid hX
 clear hX
 refine wp_roundsK (gf:=304) (lb:=#[(.pointer (some ⟨w.heap.size + 4,0,none⟩)),(.pointer (some ⟨w.heap.size + 5,0,none⟩))]) rfl (enters_of Tryz.func304 (by kernel_rfl) rfl)
  (FsI w G M gb base ps ls l N vb x) (fun k vs _=>∃ o:Of,(agO l x.sl x.bu x.nu x.de)[k]? = some o∧vs=#[.agg #[.int .u64 o.se,.int .u8 o.ow,.int .u8 o.sl,.int .u8 o.bu,.int .i64 o.lf,.int .i64 o.nu,.int .i64 o.de]]) (FsX w ps ls l x) (fun k=>(agO l x.sl x.bu x.nu x.de).length≤k) (fun k k'=>k'=k + 1)
  (fun k vs a' W'=>∃ (o:Of) (b:Nat),(agO l x.sl x.bu x.nu x.de)[k]? = some o∧Blk W' b #[.int .u64 o.se,.int .u8 o.ow,.int .u8 o.sl,.int .u8 o.bu,.int .i64 o.lf,.int .i64 o.nu,.int .i64 o.de] 75∧a'=⟨#[.agg #[.int .u64 x.se,.int .u8 x.ow,.int .u8 x.sl,.int .u8 x.bu,.int .i64 x.lf,.int .i64 x.nu,.int .i64 x.de],.agg #[.pointer (some ⟨G,0,none⟩),.pointer (some ⟨gb,0,none⟩)],(.pointer (some ⟨w.heap.size,0,none⟩)),(.pointer (some ⟨w.heap.size + 1,0,none⟩)),(.pointer (some ⟨w.heap.size + 2,0,none⟩)),(.pointer (some ⟨w.heap.size + 3,0,none⟩)),(.pointer (some ⟨b,0,none⟩)),.agg #[.int .u64 x.se,.int .u8 x.ow,.int .u8 x.sl,.int .u8 x.bu,.int .i64 x.lf,.int .i64 x.nu,.int .i64 x.de],(.pointer (some ⟨w.heap.size + 1,1,none⟩)),(.pointer (some ⟨gb,0,none⟩)),.func (.func 304) #[] #[(.pointer (some ⟨w.heap.size + 4,0,none⟩)),(.pointer (some ⟨w.heap.size + 5,0,none⟩))],.agg #[.int .u64 o.se,.int .u8 o.ow,.int .u8 o.sl,.int .u8 o.bu,.int .i64 o.lf,.int .i64 o.nu,.int .i64 o.de],undef,undef,undef,undef,undef,undef,undef,undef,undef,undef,undef,undef,undef,undef,undef],[]⟩)
  (fun k=>fits_FsI (by rw [X6.out]; omega) k) (fun c=>fits_FsX (by rw [X6.out]; omega) c)
  (fun k vs a=>⟨fun W1 W2 ⟨o,b,h1,h2,h3⟩ q=>⟨o,b,h1,h2.below q h2.lt,h3⟩,fun W1 lo ob ob' ⟨o,b,h1,h2,h3⟩ _ hg ho=>⟨o,b,h1,h2.turn hg ho ob',h3⟩⟩)
  (fun k vs W' ⟨o,_,h⟩=>by rw [h]; rfl) 0
  (against_seq x HX.out HMB.out JJ.out (fun k W' h=>⟨h.1.book,h.1.c4,h.1.c5⟩)) ⟨HM.out,by rw [List.drop_zero]⟩ ?assign ?body ?done ?stop
 case assign =>
  rintro m lo k vs W' K _ ⟨o,ho,rfl⟩ hK
  gi_wp2_with fail
  exact hK _ _ ((Below.refl _ _).alloc (Nat.le_refl _) _) ⟨o,_,ho,Blk.new _ _ _,rfl⟩
 case body =>
  rintro m0 lo k vs a' W' hW' hM ⟨o,b,ho,hb,rfl⟩
  exact fs_body HMy II.out JJ.out HX.out hM ho hb (by rw [X6.out]; omega)
 case done =>
  intro D k W' hD hS hM hK
  obtain rfl:(0,0)=R:=by rw [← HR.out,hM.2,List.drop_eq_nil_of_le hS]; rfl
  obtain ⟨v,hv⟩:=hM.1.nn
  have s0:=hM.1.sq.cell 0
  have sl:=hM.1.sq.lt
  have sf:=hM.1.sq.frozen 0
  have n0:=hv.cell 0
  have nl:=hv.lt
  have nf:=hv.frozen 0
  simp at s0 n0
  have DD:=Lib.hid (show w.heap.size + 6≤D by have:=X6.out; omega)
  have HMM:=Lib.hid hM.1
  have KN:=Lib.hid hv
  have DK:=Lib.hid hK
  clear hD hS hM hK hv
  go_wp2_with fail
  obtain ⟨W9,h9⟩:∃ W9,W9=(W'.setCell ⟨w.heap.size + 2,0,none⟩ (.int .u64 0)).setCell ⟨w.heap.size + 3,0,none⟩ (.int .i64 0):=⟨_,rfl⟩
  have k:Keep (fun j=>j=w.heap.size + 2∨j=w.heap.size + 3) W' W9:=by
   rw [h9]
   exact (Keep.setCell (S:=fun j=>j=w.heap.size + 2∨j=w.heap.size + 3) (Keep.refl _ _) (p:=⟨w.heap.size + 2,0,none⟩) (.inl (.inl rfl)) _).setCell (p:=⟨w.heap.size + 3,0,none⟩) (.inl (.inr rfl)) _
  have e1:W9.heap[D]? = some (.deferred (some [])):=(k.block D (Array.getElem?_eq_some_iff.1 DK.out).1 (by have:=DD.out; omega)).trans DK.out
  have e2:(W9.putObj D (.deferred none)).cell? ⟨w.heap.size + 2,0,none⟩=some (.int .u64 0):=by
   rw [World.cell?_of_block (w:=W9) (World.putObj_heap_other (by show ¬ w.heap.size + 2=D; have:=DD.out; omega)),h9]
   have:=((HMM.out.sq.set 0 (.int .u64 0)).setOther (a:=⟨w.heap.size + 3,0,none⟩) (show ¬ w.heap.size + 2=w.heap.size + 3 by omega) (.int .i64 0)).cell 0
   simpa using this
  have e3:(W9.putObj D (.deferred none)).cell? ⟨w.heap.size + 3,0,none⟩=some (.int .i64 0):=by
   rw [World.cell?_of_block (w:=W9) (World.putObj_heap_other (by show ¬ w.heap.size + 3=D; have:=DD.out; omega)),h9]
   have:=((KN.out.setOther (a:=⟨w.heap.size + 2,0,none⟩) (show ¬ w.heap.size + 3=w.heap.size + 2 by omega) (.int .u64 0)).set 0 (.int .i64 0)).cell 0
   simpa using this
  have e4:Below w.heap.size w (W9.putObj D (.deferred none)):=(HMM.out.below.trans (k.below HMM.out.below.size (fun j hj hs=>by omega))).trans (below_turn _ _ (by have:=DD.out; omega))
  rw [← h9]
  refine ⟨by simp,.inl ⟨_,_,rfl,run_takeDeferred e1,?_⟩⟩
  exact ⟨_,by simp [results,Tryz.results242,go_sem,e2,e3],rfl,e4⟩
 case stop =>
  rintro D c W' hD ⟨rfl,s,n,hB,hs,hn,hf⟩ hK
  obtain rfl:(s,n)=R:=by rw [← HR.out,hf]; rfl
  have DD:=Lib.hid (show w.heap.size + 6≤D by have:=X6.out; omega)
  have DK:=Lib.hid hK
  have HB:=Lib.hid hB
  have KS:=Lib.hid hs
  have KN:=Lib.hid hn
  clear hD hK hB hs hn hf
  go_wp2_with fail
  have e2:(W'.putObj D (.deferred none)).cell? ⟨w.heap.size + 2,0,none⟩=some (.int .u64 s):=by
   rw [World.cell?_of_block (w:=W') (World.putObj_heap_other (by show ¬ w.heap.size + 2=D; have:=DD.out; omega))]
   have:=KS.out.cell 0; simpa using this
  have e3:(W'.putObj D (.deferred none)).cell? ⟨w.heap.size + 3,0,none⟩=some (.int .i64 n):=by
   rw [World.cell?_of_block (w:=W') (World.putObj_heap_other (by show ¬ w.heap.size + 3=D; have:=DD.out; omega))]
   have:=KN.out.cell 0; simpa using this
  have e4:Below w.heap.size w (W'.putObj D (.deferred none)):=HB.out.trans (below_turn _ _ (by have:=DD.out; omega))
  refine ⟨by simp,.inl ⟨_,_,rfl,run_takeDeferred DK.out,?_⟩⟩
  exact ⟨_,by simp [results,Tryz.results242,go_sem,e2,e3],rfl,e4⟩
end Go.Proofs.YtngnfdnfpiiclaaGreat
namespace Go.Proofs.YtngnfdnfpiiclaaGreat
open Go.RowKit
def signed (neg:Bool) (x:Nat):Int:=if neg then -(x:Int) else x
end Go.Proofs.YtngnfdnfpiiclaaGreat
namespace Go.Proofs.YtngnfdnfpiiclaaGreat
open Go.RowKit
def Lst (k:IntKind) (w:World) (a:Option Addr) (cap:Nat) (zs:List Int):Prop :=
 (zs=[]∧(a=none→cap=0))∨∃ b off,a=some ⟨b,off,none⟩∧zs≠[]∧b<w.heap.size∧∀ i (h:i<zs.length),w.cell? ⟨b,off + i,none⟩=some (.int k zs[i])
end Go.Proofs.YtngnfdnfpiiclaaGreat
namespace Go.Proofs.YtngnfdnfpiiclaaGreat
open Go.RowKit
def Fl.vals (tk pt:Int) (f:Fl):List Value:=[.int .u64 f.se,.int .u8 tk,.int .u8 pt,.int .i64 f.got,.int .i64 f.gi]
def flCells (tk pt:Int) (fs:List Fl):List Value:=fs.flatMap (Fl.vals tk pt)
theorem flCells_len (tk pt:Int) (fs:List Fl):(flCells tk pt fs).length=fs.length * 5:=flat_len _ 5 (fun _=>rfl) fs
theorem flCells_get (tk pt:Int) (fs:List Fl) (i j:Nat) (hj:j<5) (h:i<fs.length):(flCells tk pt fs)[i * 5 + j]? = (fs[i].vals tk pt)[j]? := by
 unfold flCells
 rw [flat_get _ 5 (fun _=>rfl) fs i j hj,List.getElem?_eq_getElem h]
 rfl
theorem flCells_next (tk pt:Int) (fs:List Fl) (f:Fl):flCells tk pt (fs++[f])=flCells tk pt fs++f.vals tk pt:=by
 unfold flCells
 rw [List.flatMap_append]
 simp
theorem own_cell5 {w:World} {base n cap:Nat} {ao:Option Addr} {e:TypeId} {tk pt:Int} {fs:List Fl} (h:w.ownsRow base e 5 (.slice ao n cap) n (flCells tk pt fs)) {k:Nat} (hk:k<fs.length) :
  ∃ b,ao=some ⟨b,0,none⟩∧∀ w',Below w.heap.size w w'→b<w'.heap.size∧∀ j,j<5→w'.cell? ⟨b,k * 5 + j,none⟩=(fs[k].vals tk pt)[j]? := by
 obtain ⟨hl,h2⟩:=h
 have hz:=flCells_len tk pt fs
 rcases h2 with ⟨h2,h3⟩ | ⟨g,cap',cur,hv,hge,hg,hnc,hcm,hsz,htk⟩
 ·have:=hl
  rw [h3] at this
  omega
 ·cases hv
  have hB:Blk w g cur e:=hg
  refine ⟨g,rfl,fun w' k'=>⟨(hB.below k' hB.lt).lt,fun j hj=>?_⟩⟩
  rw [(hB.below k' hB.lt).cell]
  have e:=flCells_get tk pt fs k j hj hk
  rw [← htk,List.getElem?_take_of_lt (by omega)] at e
  rw [Array.getElem?_toList] at e
  exact e
theorem info_i64:(Tryz.prog.info? 2).map (fun i=>(i.zero,i.size,i.bytes))=some (some (.int .i64 0),1,8):=by kernel_rfl
theorem own_lst {w:World} {base n cap:Nat} {ao:Option Addr} {e:TypeId} {zs:List Int} (h:w.ownsRow base e 1 (.slice ao n cap) n (zs.map (.int .i64))) (hn:n=zs.length):Lst .i64 w ao cap zs:=by
 obtain ⟨hl,h2⟩:=h
 rcases h2 with ⟨h2,h3⟩ | ⟨g,cap',cur,hv,hge,hg,hnc,hcm,hsz,htk⟩
 ·cases h2
  refine .inl ⟨List.eq_nil_of_length_eq_zero (by omega),fun _=>rfl⟩
 ·cases hv
  have hB:Blk w g cur e:=hg
  by_cases hz:zs=[]
  ·exact .inl ⟨hz,fun h=>by cases h⟩
  ·refine .inr ⟨g,0,rfl,hz,hB.lt,fun i hi=>?_⟩
   rw [Nat.zero_add,hB.cell]
   have e:(zs.map (Value.int .i64))[i]? = some (.int .i64 zs[i]):=by rw [List.getElem?_map,List.getElem?_eq_getElem hi]; rfl
   rw [← htk,List.getElem?_take_of_lt (by omega),Array.getElem?_toList] at e
   exact e
end Go.Proofs.YtngnfdnfpiiclaaGreat
namespace Go.Proofs.YtngnfdnfpiiclaaGreat
open Go.RowKit
theorem clipFl_any {w:World} {base:Nat} {v:Value} {n:Nat} {xs:List Value} (h:w.ownsRow base 241 5 v n xs) :
  Calls Tryz.prog 236 #[v] w (ClipPost w base 241 5 n v xs):=by
 rcases h.2 with ⟨rfl,h0⟩ | ⟨g,cap,cur,rfl,hbase,hb,h1,h2,h3,h4⟩
 ·subst h0
  have hr:=run_slice_clip_none (P:=Tryz.prog) w 235 241 5 Tryz.underlying235 (Tryz.sizeOf241 w)
  have hx:=h.1
  have hx2:=Lib.hid hx
  clear h hx
  go_enter Tryz.func236,Tryz.ntmps236
  go_wp2
  refine bodyPost_ret (v:=.slice none 0 0) (by simp [results,Tryz.results236,go_sem]) rfl ?_
  exact ⟨_,rfl,⟨hx2.out,.inl ⟨rfl,rfl⟩⟩,rfl,rfl⟩
 ·have hr:=run_slice_clip (P:=Tryz.prog) w 235 241 5 Tryz.underlying235 (Tryz.sizeOf241 w) g n cap h1
  have HR:=Lib.hid (show Rowed w base 241 5 (.slice (some ⟨g,0,none⟩) n n) n xs from ⟨h.1,.inr ⟨g,cur,rfl,hbase,hb,by omega,by omega,h4⟩⟩)
  clear h hb h4 h3
  unfold maxLen at h2
  go_enter Tryz.func236,Tryz.ntmps236
  go_wp2
  refine bodyPost_ret (v:=.slice (some ⟨g,0,none⟩) n n) (by simp [results,Tryz.results236,go_sem]) rfl ?_
  exact ⟨_,rfl,HR.out,rfl,rfl⟩
def SumNil (w:World) (i:Value) (wr:World):Prop:=i=.int .i64 0∧Below w.heap.size w wr∧Blk wr w.heap.size #[.int .u64 0,.int .u64 0] 340
set_option maxHeartbeats 1000000 in
theorem psum_nil (a:Option Addr) (cap:Nat) (w:World):Calls Tryz.prog 199 #[.slice a 0 cap] w fun e w'=>e=.returned (ans 0)∧Below w.heap.size w w':=by
 go_enter Tryz.func199,Tryz.ntmps199
 go_wp2
 go_loopw [9] (SumNil w) (fun _ _=>0)
 case atStart=>exact ⟨rfl,(Below.refl _ _).alloc (Nat.le_refl _) _,Blk.new _ _ _⟩
 case round =>
  obtain ⟨rfl,hb,hblk⟩:=hrel
  have hg:=hblk.lt
  have hc0:wr.cell? ⟨w.heap.size,0,none⟩=some (.int .u64 0):=hblk.cell 0
  have hc1:wr.cell? ⟨w.heap.size,1,none⟩=some (.int .u64 0):=hblk.cell 1
  have hn:=narrow_any 0 wr (by omega) (by omega)
  simp only [wideV_eq,show hi64 0=0 by decide,show lo64 0=0 by decide] at hn
  go_wp2_with fail
  refine hn.mono ?_
  rintro e w4 ⟨rfl,b4⟩
  unfold ans
  go_wp2
  go_ret2
  exact ⟨rfl,hb.trans (b4.mono (Nat.le_of_lt hg))⟩
theorem psum_lst (a:Option Addr) (cap:Nat) (zs:List Int) (w:World) (hz:∀ z ∈ zs,In64 z) (hl:zs.length≤140737488355328) (ha:Lst .i64 w a cap zs) :
  Calls Tryz.prog 199 #[.slice a zs.length cap] w fun e w'=>e=.returned (ans zs.sum)∧Below w.heap.size w w':=by
 rcases ha with ⟨rfl,_⟩ | ⟨b,off,rfl,_,hlt,hc⟩
 ·exact psum_nil a cap w
 ·exact sum_any b off cap zs w hz hl hlt hc
def FillsIn (w:World) (ao:Option Addr) (tk pt:Int) (fs:List Fl):Prop :=
 ∀ k (h:k<fs.length),∃ b,ao=some ⟨b,0,none⟩∧∀ w',Below w.heap.size w w'→b<w'.heap.size∧∀ j,j<5→w'.cell? ⟨b,k * 5 + j,none⟩=(fs[k].vals tk pt)[j]?
def PGvAt (W:World) (fs:List Fl) (v i:Value) (wr:World):Prop :=
 ∃ k:Nat,k≤fs.length∧i=.int .i64 k∧wr.ownsRow W.heap.size 2 1 v k (((fs.take k).map Fl.gi).map (.int .i64))∧Below W.heap.size W wr
set_option maxHeartbeats 8000000 in
set_option maxRecDepth 100000 in
theorem pgiven_in {w:World} {ao:Option Addr} {cap:Nat} {tk pt:Int} {fs:List Fl} (hv:FillsIn w ao tk pt fs) (h64:∀ f ∈ fs,In64 f.gi) (hlen:fs.length≤1000) (hc1:fs.length≤cap) (hc2:cap≤maxLen) :
  Calls Tryz.prog 155 #[.slice ao fs.length cap] w fun e w'=>e=.returned (.int .i64 (okN (fs.map Fl.gi).sum))∧Below w.heap.size w w':=by
 have HV:=Lib.hid hv
 have H64:=Lib.hid h64
 unfold maxLen at hc2
 clear hv h64
 go_enter Tryz.func155,Tryz.ntmps155
 go_wp2_with fail
 go_loopw [3,5,10] (fun v _ i wr=>PGvAt w fs v i wr) (fun _ _ i _=>fs.length - (intOf i).toNat)
 case atStart=>exact ⟨0,by omega,rfl,World.ownsRow_nil w _ _ _,Below.refl _ _⟩
 case round =>
  obtain ⟨k,hk,rfl,ho,hb⟩:=hrel
  by_cases hkl:k<fs.length
  ·have hki:(k:Int)<(fs.length:Int):=by omega
   have hk0:(0:Int)≤(k:Int):=by omega
   have q0:decide ((k:Int)<(fs.length:Int))=true:=by simpa using hkl
   obtain ⟨b,hbb,hc⟩:=HV.out k hkl
   subst hbb
   obtain ⟨hbl,hcj⟩:=hc wr hb
   have c0:=hcj 0 (by omega); have c1:=hcj 1 (by omega); have c2:=hcj 2 (by omega); have c3:=hcj 3 (by omega); have c4:=hcj 4 (by omega)
   have HT:Hid (((fs.take (k + 1)).map Fl.gi).map (Value.int .i64)=((fs.take k).map Fl.gi).map (.int .i64)++[.int .i64 fs[k].gi]):=Lib.hid (by
    rw [List.take_succ_eq_append_getElem hkl,List.map_append,List.map_append]; rfl)
   simp only [Fl.vals,List.getElem?_cons_zero,List.getElem?_cons_succ] at c0 c1 c2 c3 c4
   have OO:=Lib.hid ho
   have BB:=Lib.hid hb
   have HK:=Lib.hid hkl
   clear ho hb hc hcj
   generalize fs[k]=f at *
   obtain ⟨se,got,x⟩:=f
   dsimp only at c0 c1 c2 c3 c4 HT
   clear hkl
   rw [Nat.add_zero] at c0
   go_wp2_with (at_builtin; refine wpList_append_one _ rfl (.tmp 14) (.tmp 17) 215 2 rfl Tryz.underlying215 info_i64 rfl (by decide) (by decide) w.heap.size _ k _ rfl ((OO.out.alloc _).alloc _) (wr.heap.size + 1) 1 [.int .i64 x] rfl rfl (Blk.newAt _ _ _ (by simp)) (by simp [Value.oneCell']) (by omega) (by have:=BB.out.size; simp; omega) ?_)
   intro v2 w2 ho2 hg2
   have HO2:=Lib.hid (show w2.ownsRow w.heap.size 2 1 v2 (k + 1) (((fs.take (k + 1)).map Fl.gi).map (.int .i64)) from by rw [HT.out]; simpa [List.map_take] using ho2)
   have BB2:=Lib.hid (below_ag (BB.out.alloc BB.out.size _) (by have:=BB.out.size; simp; omega) hg2 (fun b hb=>(owns_type OO.out hb).1))
   clear ho2 hg2
   go_wp2_with fail
   exact ⟨⟨k + 1,by have:=HK.out; omega,by go_num,HO2.out,BB2.out⟩,by simp [intOf]; have:=HK.out; omega⟩
  ·have hkn:k=fs.length:=by omega
   subst hkn
   have q0:decide (((fs.length:Nat):Int)<(fs.length:Int))=false:=by simp
   rw [List.take_length] at ho
   obtain ⟨a2,cap2,rfl,d1,d2,_,_⟩:=owns_open ho
   have CS:=Lib.hid (psum_lst a2 cap2 (fs.map Fl.gi) wr (by intro z hz; obtain ⟨f,hf,rfl⟩:=List.mem_map.1 hz; exact H64.out f hf) (by simp; omega) (own_lst ho (by simp)))
   rw [List.length_map] at CS
   unfold ans at CS
   have BB:=Lib.hid hb
   clear hb ho
   go_wp2_with fail
   refine CS.out.mono ?_
   rintro e w2 ⟨rfl,b2⟩
   have B2:=Lib.hid (BB.out.trans (b2.mono BB.out.size))
   clear b2
   go_wp2_with fail
   go_ret
   exact ⟨rfl,B2.out⟩
theorem pgiven_any {w:World} {base:Nat} {tk pt:Int} {fs:List Fl} {v:Value} (hv:w.ownsRow base 241 5 v fs.length (flCells tk pt fs)) (h64:∀ f ∈ fs,In64 f.gi) (hlen:fs.length≤1000) :
  Calls Tryz.prog 155 #[v] w fun e w'=>e=.returned (.int .i64 (okN (fs.map Fl.gi).sum))∧Below w.heap.size w w':=by
 obtain ⟨ao,cap,rfl,hc1,hc2,hc3,hc4⟩:=owns_open hv
 exact pgiven_in (fun k hk=>own_cell5 hv hk) h64 hlen hc1 hc2
theorem rowed_fills {w:World} {base:Nat} {ao:Option Addr} {n cap:Nat} {e:TypeId} {tk pt:Int} {fs:List Fl} (h:Rowed w base e 5 (.slice ao n cap) n (flCells tk pt fs)):FillsIn w ao tk pt fs:=by
 intro k hk
 have hz:=flCells_len tk pt fs
 obtain ⟨ao',cap',hv,_,_,hl,h4⟩:=h.look
 cases hv
 obtain ⟨b,rfl,_,hb,hc,_⟩:=h4 (by omega)
 refine ⟨b,rfl,fun w' q=>⟨Nat.lt_of_lt_of_le hb q.size,fun j hj=>?_⟩⟩
 rw [q.cell (p:=⟨b,k * 5 + j,none⟩) hb,hc _ (by omega),flCells_get tk pt fs k j hj hk]
end Go.Proofs.YtngnfdnfpiiclaaGreat
