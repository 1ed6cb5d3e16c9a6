/- Pieces of one proof. -/
import Derived.Test.YtaeocliklpcgmaaGreatV23
import Derived.ChangeArms
import Derived.Lib.SmallJoins
set_option linter.all false
set_option maxHeartbeats 64000000
set_option maxRecDepth 100000
namespace Go.Proofs.YtaeocliklpcgmaaGreat
open Go.RowKit
theorem aDg{w:World}{lp:Option Addr}(h:Void w (.pointer lp)):aCl w lp 2 (fun _=>false):=
 ⟨fun w' k=>void_open (h.below k) 0,fun w' k p=>void_has (h.below k) p⟩
theorem aM5:ledC [] (.map none)=#[.bool false,.bool false,.bool false,.bool false,.bool false,.bool false,.bool false,.bool false,.bool false,.bool false,.bool false,.bool false,.bool false,.bool false,.bool false,.bool false,.bool false,.map none]:=by
 unfold ledC;rfl
def Unmade12(w:World)(lp bp:Option Addr):Prop:=∀w',Below w.heap.size w w'→Calls Tryz.prog 101 #[.agg #[.pointer lp,.pointer bp]] w' fun e w''=>e=.returned (.bool false)∧Below w'.heap.size w' w''
theorem aD5{w:World}{lp bp:Option Addr}{e0 N:Int}{has:Int→Bool}(h:aCl w lp e0 has)(hn:∀w',Below w.heap.size w w'→Calls Tryz.prog 27 #[.pointer bp] w' fun e w''=>e=.returned (.int .u64 N)∧w'=w'')(he:e0=2∨N=0):Unmade12 w lp bp:=
 fun w' k=>cmade_of (er:=2) (fun w2 q=>hdo_void ((h.below k).below q) (fun w3 r=>hn w3 (andB k (andB q r))) he 0 0 0 0)
def VoidAt12(W:World)(i:Value)(wr:World):Prop:=∃k:Nat,k≤4∧i=.int .i64 k∧Below W.heap.size W wr
theorem aLr(HL:Lives12)(x:Of)(w:World)(hx:x.Fits):
  Calls Tryz.prog 4 #[.agg #[.int .u64 x.se,.int .u8 x.ow,.int .u8 x.sl,.int .u8 x.bu,.int .i64 x.lf,.int .i64 x.nu,.int .i64 x.de]] w (yR w (.bool true)):=by
 clear hx;have HLo:=yH HL;have b0:=(Below.refl w.heap.size w).alloc yL (.cells #[.int .u64 x.se,.int .u8 x.ow,.int .u8 x.sl,.int .u8 x.bu,.int .i64 x.lf,.int .i64 x.nu,.int .i64 x.de] 48);have KA:=yH (pAA w #[.int .u64 x.se,.int .u8 x.ow,.int .u8 x.sl,.int .u8 x.bu,.int .i64 x.lf,.int .i64 x.nu,.int .i64 x.de] 48);have B0:=yH b0;clear b0 HL;go_enter Tryz.func4,Tryz.ntmps4;go_wp2_with fail;generalize w.alloc (.cells #[.int .u64 x.se,.int .u8 x.ow,.int .u8 x.sl,.int .u8 x.bu,.int .i64 x.lf,.int .i64 x.nu,.int .i64 x.de] 48)=W0 at *;refine(new_any W0).mono ?_;rintro e w1 ⟨G,M,rfl,hL,_,_,b1⟩;have L1:=yH hL;have KA1:=yB KA b1;have B1:=yT B0 b1;clear hL b1 KA B0;go_wp2_with fail;refine(pnew_any w1 0 (by omega)).mono ?_;rintro e w2 ⟨rfl,hP,b2⟩;obtain⟨gb,hgb⟩:∃gb,w1.heap.size=gb:=⟨_,rfl⟩;rw[hgb]at hP ⊢;clear hgb;have c1:=(Below.refl w2.heap.size w2).alloc yL (.cells #[.bool false,.bool false,.bool false,.bool false,.bool false,.bool false,.bool false,.bool false,.bool false,.bool false,.bool false,.bool false,.bool false,.bool false,.bool false,.bool false,.bool false,.map none] 60);have c2:=c1.alloc c1.size (.cells #[.slice none 0 0,.int .u64 0] 63);have c3:=c2.alloc c2.size (.cells #[.pointer none,.pointer none,.pointer (some ⟨G,0,none⟩),.pointer none,.pointer none,.pointer (some ⟨gb,0,none⟩),.pointer (some ⟨w2.heap.size,0,none⟩),.pointer (some ⟨w2.heap.size+1,0,none⟩)] 31);have b3:=b2.trans (c3.mono b2.size);have L3:=yH (L1.out.below b3);have P3:=yH (hP.below c3);have KA3:=yB KA1 b3;have B3:=yT B1 b3;have KL:=yH (((pAA w2 #[.bool false,.bool false,.bool false,.bool false,.bool false,.bool false,.bool false,.bool false,.bool false,.bool false,.bool false,.bool false,.bool false,.bool false,.bool false,.bool false,.bool false,.map none] 60).alloc (.cells #[.slice none 0 0,.int .u64 0] 63)).alloc (.cells #[.pointer none,.pointer none,.pointer (some ⟨G,0,none⟩),.pointer none,.pointer none,.pointer (some ⟨gb,0,none⟩),.pointer (some ⟨w2.heap.size,0,none⟩),.pointer (some ⟨w2.heap.size+1,0,none⟩)] 31));have KB:=yH ((pAC (w2.alloc (.cells #[.bool false,.bool false,.bool false,.bool false,.bool false,.bool false,.bool false,.bool false,.bool false,.bool false,.bool false,.bool false,.bool false,.bool false,.bool false,.bool false,.bool false,.map none] 60)) #[.slice none 0 0,.int .u64 0] 63 (g:=w2.heap.size+1) (by simp)).alloc (.cells #[.pointer none,.pointer none,.pointer (some ⟨G,0,none⟩),.pointer none,.pointer none,.pointer (some ⟨gb,0,none⟩),.pointer (some ⟨w2.heap.size,0,none⟩),.pointer (some ⟨w2.heap.size+1,0,none⟩)] 31));have KS:=yH (pAC ((w2.alloc (.cells #[.bool false,.bool false,.bool false,.bool false,.bool false,.bool false,.bool false,.bool false,.bool false,.bool false,.bool false,.bool false,.bool false,.bool false,.bool false,.bool false,.bool false,.map none] 60)).alloc (.cells #[.slice none 0 0,.int .u64 0] 63)) #[.pointer none,.pointer none,.pointer (some ⟨G,0,none⟩),.pointer none,.pointer none,.pointer (some ⟨gb,0,none⟩),.pointer (some ⟨w2.heap.size,0,none⟩),.pointer (some ⟨w2.heap.size+1,0,none⟩)] 31 (g:=w2.heap.size+2) (by simp));clear hP b2 b3 c1 c2 c3 KA1 B1 L1;go_wp2_with fail;generalize ((w2.alloc (.cells #[.bool false,.bool false,.bool false,.bool false,.bool false,.bool false,.bool false,.bool false,.bool false,.bool false,.bool false,.bool false,.bool false,.bool false,.bool false,.bool false,.bool false,.map none] 60)).alloc (.cells #[.slice none 0 0,.int .u64 0] 63)).alloc (.cells #[.pointer none,.pointer none,.pointer (some ⟨G,0,none⟩),.pointer none,.pointer none,.pointer (some ⟨gb,0,none⟩),.pointer (some ⟨w2.heap.size,0,none⟩),.pointer (some ⟨w2.heap.size+1,0,none⟩)] 31)=W at *;rw[←aM5]at KL;obtain⟨S,hS⟩:∃S,w2.heap.size+2=S:=⟨_,rfl⟩;rw[show w2.heap.size+1+1=S from hS];rw[hS]at KS;have HSS:=yH hS;clear hS;obtain⟨A1,hA1⟩:∃A1,w2.heap.size=A1:=⟨_,rfl⟩;obtain⟨A2,hA2⟩:∃A2,w2.heap.size+1=A2:=⟨_,rfl⟩;rw[hA2]at KS KB;rw[hA1]at KS KL;clear hA1 hA2
 go_loopw [4,5,6,7,8] (fun i _ _ _ _ wr=>VoidAt12 W i wr) (fun i _ _ _ _ _=>4 - (intOf i).toNat)
 case atStart=>exact⟨0,by omega,rfl,yZ⟩
 obtain⟨k,hk,rfl,hbr⟩:=hrel
 by_cases hk4:k<4
 ·obtain⟨lp,bp,HB,HS0⟩:∃lp bp,Hid (Unmade12 wr lp bp)∧Hid (∀w',Below wr.heap.size wr w'→S<w'.heap.size∧w'.cell? ⟨S,k*2,none⟩=some (.pointer lp)∧w'.cell? ⟨S,k*2+1,none⟩=some (.pointer bp)):=by
   have ks:=KS.out.below hbr KS.out.lt;have kl:=KL.out.below hbr KL.out.lt;have kb:=KB.out.below hbr KB.out.lt;have ll:=L3.out.below hbr;have pp:=P3.out.below hbr;rcases(by omega:k=0∨k=1∨k=2∨k=3)with rfl|rfl|rfl|rfl
   ·exact⟨none,none,yH (aD5 (aDg (void_nil wr)) (fun w' _=>aK6 w') (.inl rfl)),yH fun w' h=>⟨(ks.below h ks.lt).lt,(by simpa using(ks.below h ks.lt).cell 0),(by simpa using(ks.below h ks.lt).cell 1)⟩⟩
   ·exact⟨_,none,yH (aD5 (aDx ll LInv.nil) (fun w' _=>aK6 w') (.inr rfl)),yH fun w' h=>⟨(ks.below h ks.lt).lt,(by simpa using(ks.below h ks.lt).cell 2),(by simpa using(ks.below h ks.lt).cell 3)⟩⟩
   ·exact⟨none,_,yH (aD5 (aDg (void_nil wr)) (fun w' q=>aEn (pp.below q).blk) (.inl rfl)),yH fun w' h=>⟨(ks.below h ks.lt).lt,(by simpa using(ks.below h ks.lt).cell 4),(by simpa using(ks.below h ks.lt).cell 5)⟩⟩
   exact⟨_,_,yH (aD5 (aDg (void_zero kl)) (fun w' q=>aEn (kb.below q kb.lt)) (.inl rfl)),yH fun w' h=>⟨(ks.below h ks.lt).lt,(by simpa using(ks.below h ks.lt).cell 6),(by simpa using(ks.below h ks.lt).cell 7)⟩⟩
  have KAr:=yB KA3 hbr;have BR:=yH hbr;have CD:=yH (fun w' (h:Below wr.heap.size wr w')=>(show Calls Tryz.prog 11 #[.agg #[.pointer lp,.pointer bp],.agg #[.int .u64 x.se,.int .u8 x.ow,.int .u8 x.sl,.int .u8 x.bu,.int .i64 x.lf,.int .i64 x.nu,.int .i64 x.de]] w' fun e w''=>e=.returned (.tuple #[.agg #[.pointer none,.pointer none],.slice none 0 0,.int .u64 0,.int .i64 2])∧Below w'.heap.size w' w'' from pplc_void x (fun w2 q=>HB.out w2 (andB h q))));have HK:=yH hk4;have hki:(k:Int)<4:=by omega
  have hk0:(0:Int)≤(k:Int):=by omega
  have hk3:(k:Int)+1≤9:=by omega
  clear hbr;go_wp2_with fail
  refine aAz (by kernel_rfl) (fun g:Nat→Nat=>[(.slice (some ⟨S,0,none⟩) 4 4),(.int .i64 k),(.pointer (some ⟨S,k*2,none⟩)),(.agg #[.pointer lp,.pointer bp]),(.agg #[.int .u64 x.se,.int .u8 x.ow,.int .u8 x.sl,.int .u8 x.bu,.int .i64 x.lf,.int .i64 x.nu,.int .i64 x.de]),(.tuple #[.agg #[.pointer none,.pointer none],.slice none 0 0,.int .u64 0,.int .i64 2]),(.tuple #[.agg #[.pointer none,.pointer none],.slice none 0 0,.int .u64 0,.int .i64 2]),(.agg #[.pointer none,.pointer none]),(.slice none 0 0),(.int .u64 0),(.int .i64 2),(.pointer (some ⟨g 11,0,none⟩)),undef,(.slice none 0 0),(.int .u64 0),(.int .i64 2)])
   (Lays wr [(⟨11,12,(.cells #[.pointer none,.pointer none] 31),(.cells #[.pointer none,.pointer none] 31)⟩:Spec)]) (by kernel_rfl) (fun _=>0) (Lays.start _ _ _) ?_
  intro AF hAF;simp only[yG,puts,Act.put,yA,yC,yF,yD,yE]at hAF;have hAF2:_=AF:=funext hAF;subst hAF2;clear hAF;refine⟨?_,?_⟩
  ·simp only[yG,aEc];refine⟨?_,?_,?_,?_,?_,?_,?_,?_,?_,?_,?_,?_,?_,?_,?_,?_,trivial⟩
   ·intro g D w' hD hW hC hI;refine⟨g,fun _ _ _=>rfl,?_⟩;with_reducible refine yO rfl ?_
    have hS:=hI.below;have HS:=yH (hI.step yZ (k:=0) (by rfl));clear hI hS hC hW hD;go_wp2_with fail;all_goals first|exact HS|exact⟨rfl,HS⟩|rfl
   ·intro g D w' hD hW hC hI;refine⟨g,fun _ _ _=>rfl,?_⟩;with_reducible refine yO rfl ?_
    have hS:=hI.below;have HS:=yH (hI.step yZ (k:=1) (by rfl));clear hI hS hC hW hD;go_wp2_with fail;all_goals first|exact HS|exact⟨rfl,HS⟩|rfl
   ·intro g D w' hD hW hC hI;refine⟨g,fun _ _ _=>rfl,?_⟩;with_reducible refine yO rfl ?_
    have hS:=hI.below;obtain⟨hsl,hc0,hc1⟩:=HS0.out w' hS;have HS:=yH (hI.step yZ (k:=2) (by rfl));clear hI hS hC hW hD;go_wp2_with fail;all_goals first|exact HS|exact⟨rfl,HS⟩|rfl
   ·intro g D w' hD hW hC hI;refine⟨g,fun _ _ _=>rfl,?_⟩;with_reducible refine yO rfl ?_
    have hS:=hI.below;obtain⟨hsl,hc0,hc1⟩:=HS0.out w' hS;have HS:=yH (hI.step yZ (k:=3) (by rfl));clear hI hS hC hW hD;go_wp2_with fail;all_goals first|exact HS|exact⟨rfl,HS⟩|rfl
   ·intro g D w' hD hW hC hI;refine⟨g,fun _ _ _=>rfl,?_⟩;with_reducible refine yO rfl ?_
    have hS:=hI.below;have hl0:=yM KAr.out.lt hS.size;have d0_0:=(KAr.out.below hS KAr.out.lt).cell 0;have d0_1:=(KAr.out.below hS KAr.out.lt).cell 1;have d0_2:=(KAr.out.below hS KAr.out.lt).cell 2;have d0_3:=(KAr.out.below hS KAr.out.lt).cell 3;have d0_4:=(KAr.out.below hS KAr.out.lt).cell 4;have d0_5:=(KAr.out.below hS KAr.out.lt).cell 5;have d0_6:=(KAr.out.below hS KAr.out.lt).cell 6;simp at d0_0 d0_1 d0_2 d0_3 d0_4 d0_5 d0_6;have HS:=yH (hI.step yZ (k:=4) (by rfl));clear hI hS hC hW hD;go_wp2_with fail;all_goals first|exact HS|exact⟨rfl,HS⟩|rfl
   ·intro g D w' hD hW hC hI;refine⟨g,fun _ _ _=>rfl,?_⟩;with_reducible refine yO rfl ?_
    have hS:=hI.below;have HI:=yH hI;have HC:=yH (CD.out w' hS);clear hI hS hC hW hD;go_wp2_with fail;refine HC.out.mono ?_;rintro e w'' ⟨rfl,hb2⟩;exact⟨rfl,HI.out.step hb2 (by rfl)⟩
   ·intro g D w' hD hW hC hI;refine⟨g,fun _ _ _=>rfl,?_⟩;with_reducible refine yO rfl ?_
    have hS:=hI.below;have HS:=yH (hI.step yZ (k:=6) (by rfl));clear hI hS hC hW hD;go_wp2_with fail;all_goals first|exact HS|exact⟨rfl,HS⟩|rfl
   ·intro g D w' hD hW hC hI;refine⟨g,fun _ _ _=>rfl,?_⟩;with_reducible refine yO rfl ?_
    have hS:=hI.below;have HS:=yH (hI.step yZ (k:=7) (by rfl));clear hI hS hC hW hD;go_wp2_with fail;all_goals first|exact HS|exact⟨rfl,HS⟩|rfl
   ·intro g D w' hD hW hC hI;refine⟨g,fun _ _ _=>rfl,?_⟩;with_reducible refine yO rfl ?_
    have hS:=hI.below;have HS:=yH (hI.step yZ (k:=8) (by rfl));clear hI hS hC hW hD;go_wp2_with fail;all_goals first|exact HS|exact⟨rfl,HS⟩|rfl
   ·intro g D w' hD hW hC hI;refine⟨g,fun _ _ _=>rfl,?_⟩;with_reducible refine yO rfl ?_
    have hS:=hI.below;have HS:=yH (hI.step yZ (k:=9) (by rfl));clear hI hS hC hW hD;go_wp2_with fail;all_goals first|exact HS|exact⟨rfl,HS⟩|rfl
   ·intro g D w' hD hW hC hI;refine⟨g,fun _ _ _=>rfl,?_⟩;with_reducible refine yO rfl ?_
    have hS:=hI.below;have HS:=yH (hI.step yZ (k:=10) (by rfl));clear hI hS hC hW hD;go_wp2_with fail;all_goals first|exact HS|exact⟨rfl,HS⟩|rfl
   ·intro g D w' hD hW hC hI;have hN:D 12=false:=aBa hC hD 25 12 (by kernel_rfl);refine⟨upd g 11 w'.heap.size,aCp _ (fun g:Nat→Nat=>[(.slice (some ⟨S,0,none⟩) 4 4),(.int .i64 k),(.pointer (some ⟨S,k*2,none⟩)),(.agg #[.pointer lp,.pointer bp]),(.agg #[.int .u64 x.se,.int .u8 x.ow,.int .u8 x.sl,.int .u8 x.bu,.int .i64 x.lf,.int .i64 x.nu,.int .i64 x.de]),(.tuple #[.agg #[.pointer none,.pointer none],.slice none 0 0,.int .u64 0,.int .i64 2]),(.tuple #[.agg #[.pointer none,.pointer none],.slice none 0 0,.int .u64 0,.int .i64 2]),(.agg #[.pointer none,.pointer none]),(.slice none 0 0),(.int .u64 0),(.int .i64 2),(.pointer (some ⟨g 11,0,none⟩)),undef,(.slice none 0 0),(.int .u64 0),(.int .i64 2)]) g 11 _ 25 hC hD ?_,?_⟩
    ·intro j hj
     match j,hj with
     | 0,_=>exact .inr rfl
     | 1,_=>exact .inr rfl
     | 2,_=>exact .inr rfl
     | 3,_=>exact .inr rfl
     | 4,_=>exact .inr rfl
     | 5,_=>exact .inr rfl
     | 6,_=>exact .inr rfl
     | 7,_=>exact .inr rfl
     | 8,_=>exact .inr rfl
     | 9,_=>exact .inr rfl
     | 10,_=>exact .inr rfl
     | 11,_=>exact .inl (.inl rfl)
     | 12,_=>exact .inr rfl
     | 13,_=>exact .inr rfl
     | 14,_=>exact .inr rfl
     | 15,_=>exact .inr rfl
     | j+16,_=>exact .inr rfl
    with_reducible refine yO rfl ?_
    have HS:=yH (hI.lay (⟨11,12,(.cells #[.pointer none,.pointer none] 31),(.cells #[.pointer none,.pointer none] 31)⟩:Spec) (by simp) (by rfl) (.inr hN) (by rfl) (fun s' hs' _=>List.mem_singleton.1 hs') (.cells #[.pointer none,.pointer none] 31) rfl);clear hI hC hW hD hN;go_wp2_with fail;all_goals first|exact HS|exact⟨rfl,HS⟩|rfl
   ·intro g D w' hD hW hC hI;have hP:D 11=true:=aA2 hC hW (d:=25) (by kernel_rfl);obtain⟨hg,hk⟩:=hI.zeroed (⟨11,12,(.cells #[.pointer none,.pointer none] 31),(.cells #[.pointer none,.pointer none] 31)⟩:Spec) (by simp) hP hD;refine⟨g,fun _ _ _=>rfl,?_⟩;with_reducible refine yO rfl ?_
    refine wp_store_row 31 (.tmp 5) (.tmp 33) rfl (g 11) #[.pointer none,.pointer none] rfl rfl 31 _ hk (by kernel_rfl) rfl (by simp[Value.oneCell']) ⟨rfl,?_⟩;exact hI.fill (⟨11,12,(.cells #[.pointer none,.pointer none] 31),(.cells #[.pointer none,.pointer none] 31)⟩:Spec) (by simp) (by rfl) (show(12:Nat)≠11 by decide) (fun s' hs' _=>List.mem_singleton.1 hs') hP (aAf _ _) (setRow_heap w' (g 11) _ _ 31 (0,0) hk)
   ·intro g D w' hD hW hC hI;refine⟨g,fun _ _ _=>rfl,?_⟩;with_reducible refine yO rfl ?_
    have hS:=hI.below;have HS:=yH (hI.step yZ (k:=13) (by rfl));clear hI hS hC hW hD;go_wp2_with fail;all_goals first|exact HS|exact⟨rfl,HS⟩|rfl
   ·intro g D w' hD hW hC hI;refine⟨g,fun _ _ _=>rfl,?_⟩;with_reducible refine yO rfl ?_
    have hS:=hI.below;have HS:=yH (hI.step yZ (k:=14) (by rfl));clear hI hS hC hW hD;go_wp2_with fail;all_goals first|exact HS|exact⟨rfl,HS⟩|rfl
   intro g D w' hD hW hC hI;refine⟨g,fun _ _ _=>rfl,?_⟩;with_reducible refine yO rfl ?_
   have hS:=hI.below;have HS:=yH (hI.step yZ (k:=15) (by rfl));clear hI hS hC hW hD;go_wp2_with fail;all_goals first|exact HS|exact⟨rfl,HS⟩|rfl
  intro g D W5 hall hI;have KFr:=yH (show Blk W5 (g 11) #[.pointer none,.pointer none] 31 from(hI.full (⟨11,12,(.cells #[.pointer none,.pointer none] 31),(.cells #[.pointer none,.pointer none] 31)⟩:Spec) (by simp) (hall 11 (by decide)) (hall 12 (by decide))).2);have B5:=yH (BR.out.trans (hI.below.mono BR.out.size));clear hall hI CD BR HS0 KAr;have kf:=KFr.out;have hl:=kf.lt;have f0:=kf.cell 0;have f1:=kf.cell 1;simp at f0 f1;clear kf;go_wp2_with fail;exact⟨⟨k+1,by have:=HK.out;omega,by go_num,B5.out⟩,by simp[intOf];have:=HK.out;omega⟩
 have hk44:k=4:=by omega
 subst hk44;have BR:=yH hbr;clear hbr;go_wp2_with fail;refine(HLo.out _).mono ?_;rintro e w9 ⟨rfl,b9⟩;have B9:=yH (B3.out.trans ((BR.out.trans (b9.mono BR.out.size)).mono B3.out.size));clear b9;go_wp2_with fail;go_ret;exact⟨rfl,B9.out⟩
def BCopyPost(base:Nat)(l:List Of)(N:Int)(w:World)(e:Ending)(w':World):Prop:=
 ∃g' vl',e=.returned (.pointer (some ⟨g',0,none⟩))∧PB w' base g' l N vl'∧w.heap.size≤g'∧(∀b,vl'.ownBlock=some b→w.heap.size≤b)∧Below w.heap.size w w'
theorem pcopyB_any{w:World}{base g:Nat}{l:List Of}{N:Int}{vl:Value}(h:PB w base g l N vl)(h1:1≤N)(hl:l.length≤1000):
  Calls Tryz.prog 56 #[.pointer (some ⟨g,0,none⟩)] w (BCopyPost base l N w):=by
 have CM:=yH (aH9 h.blk h1);have H:=yH h;obtain⟨ao,cap,rfl,_⟩:=aAe h.row;have hgl:=h.blk.lt;have d0:=h.blk.cell 0;have d1:=h.blk.cell 1;simp at d0 d1;have CC:=yH (aI8 (w:=w.drew) (aAn h.row yZ.drew) hl);have hbs:=Nat.le_trans h.ge (Nat.le_of_lt hgl);clear h h1;go_enter Tryz.func56,Tryz.ntmps56;go_wp2_with fail;refine CM.out.mono ?_;rintro e w ⟨rfl,rfl⟩;go_wp2_with fail
 go_region_with ((refine CC.out.mono ?_;rintro e w1 ⟨v',rfl,o1,b1⟩;have HO:=yH o1;have HB:=yH b1;have k1:=(H.out.blk.drew).below b1 hgl;have c1:=k1.cell 1;have l1:=k1.lt;simp at c1;obtain⟨ao',cap',hv',_⟩:=aAe o1;subst hv';clear o1 b1 k1))
 all_goals
  go_wp2;refine bodyPost_ret (v:=.pointer (some ⟨w1.heap.size,0,none⟩)) (by simp[results,Tryz.results56,go_sem]) rfl ?_;have bw:=(Below.refl w1.heap.size w1).alloc yL (.cells #[.slice ao' l.length cap',.int .u64 N] 63);exact⟨_,_,rfl,⟨pAA _ _ _,Nat.le_trans hbs HB.out.size,aKf (aAn HO.out bw) hbs⟩,HB.out.size,fun b hb=>(aAh HO.out hb).1,(pAB HB.out).trans (bw.mono HB.out.size)⟩
theorem aM6{w:World}{base base':Nat}{e:TypeId}{size:Nat}{v:Value}{n:Nat}{xs:List Value}(h:w.ownsRow base e size v n xs)(hb:∀b,v.ownBlock=some b→base'≤b):w.ownsRow base' e size v n xs:=by
 obtain⟨h1,h2⟩:=h;refine⟨h1,?_⟩;rcases h2 with h2|⟨g,cap,cur,rfl,hge,hr⟩
 ·exact .inl h2
 exact .inr ⟨g,cap,cur,rfl,hb g rfl,hr⟩
theorem hcopy_any:aIe:=by
 intro w base G M gb ps ls l N vb hL hI hP hJ;have hg1:(w.alloc (.cells #[.pointer (some ⟨G,0,none⟩),.pointer (some ⟨gb,0,none⟩)] 31)).heap.size=w.heap.size+1:=by simp
 have b1:=(Below.refl w.heap.size w).alloc yL (.cells #[.pointer (some ⟨G,0,none⟩),.pointer (some ⟨gb,0,none⟩)] 31);have k1:=pAA w #[.pointer (some ⟨G,0,none⟩),.pointer (some ⟨gb,0,none⟩)] 31;generalize hW1:w.alloc (.cells #[.pointer (some ⟨G,0,none⟩),.pointer (some ⟨gb,0,none⟩)] 31)=W1 at *;have b2:=(Below.refl W1.heap.size W1).alloc yL (.cells #[.pointer none,.pointer none] 31);have k2:=pAA W1 #[.pointer none,.pointer none] 31;rw[hg1]at k2;generalize hW2:W1.alloc (.cells #[.pointer none,.pointer none] 31)=W2 at *;have HW1:=yH hW1;have HW2:=yH hW2;have KX:=yH (k1.below b2 k1.lt);have KF:=yH k2;have CL:=yH (pcopy_any (((hL.below b1).below b2).below (Below.refl _ W2).drew));have HB:=yH (((hP.below b1).below b2).below (Below.refl _ W2).drew);have B1:=yH (b1.trans (b2.mono b1.size));have JJ:=yH hJ;clear hL hI hP hJ b1 b2 k1 k2 hW1 hW2 hg1;go_enter Tryz.func17,Tryz.ntmps17
 go_upto_region 1 with fail
 rw[HW1.out,HW2.out];have e0:=KX.out.cell 0;have e1:=KX.out.cell 1;have kx:=KX.out.lt;have kf:=KF.out.lt;have f0:=KF.out.cell 0;have f1:=KF.out.cell 1;simp at e0 e1 f0 f1
 go_region_with (first|(go_at_call 55;refine CL.out.mono ?_;rintro e w1 ⟨g1,m1,rfl,r1,n1,n2,b1⟩;have KX1:=yH (KX.out.drew.below b1 kx);have KF1:=yH (KF.out.drew.below b1 kf);have R1:=yH r1;have BB:=yH b1;have NN:=yH (And.intro n1 n2);have CB:=yH (pcopyB_any (HB.out.below b1) JJ.out.n1 (by have:=JJ.out.len;omega));clear r1 b1 n1 n2;have c0:=KX1.out.cell 0;have c1:=KX1.out.cell 1;have cx:=KX1.out.lt;simp at c0 c1)|(go_at_call 56;refine CB.out.mono ?_;rintro e w2 ⟨g2,vb2,rfl,r2,n1,n2,b2⟩;have KF2:=yB KF1 b2;have R2:=yH r2;have B2:=yH b2;have NM:=yH (And.intro n1 n2);clear r2 b2 n1 n2;have z0:=KF2.out.cell 0;have z1:=KF2.out.cell 1;have zx:=KF2.out.lt;have zf:=KF2.out.frozen;simp at z0 z1))
 all_goals
  go_wp2;refine bodyPost_ret (v:=.agg #[.pointer (some ⟨g1,0,none⟩),.pointer (some ⟨g2,0,none⟩)]) (results_cell_row rfl _ _ (w.heap.size+1) 31 #[.pointer (some ⟨g1,0,none⟩),.pointer (some ⟨g2,0,none⟩)] (0,0) _ rfl ((KF2.out.set 0 _).set 1 _).out Tryz.underlying31 rfl (by kernel_rfl)) rfl ?_
  have kk:Keep (·=w.heap.size+1) w2 ((w2.setCell ⟨w.heap.size+1,0,none⟩ (.pointer (some ⟨g1,0,none⟩))).setCell ⟨w.heap.size+1,1,none⟩ (.pointer (some ⟨g2,0,none⟩))):=by
   refine Keep.setCell (S:=(·=w.heap.size+1)) ?_ (p:=⟨w.heap.size+1,1,none⟩) (.inl rfl) _;exact Keep.setCell (S:=(·=w.heap.size+1)) (Keep.refl _ _) (p:=⟨w.heap.size+1,0,none⟩) (.inl rfl) _
  have s1:=B1.out.size;have s2:=BB.out.size;obtain⟨n1,n2⟩:=NN.out;obtain⟨m1,m2⟩:=NM.out;have hd:W2.drew.heap.size=W2.heap.size:=rfl;rw[hd]at s2 n1 n2;have R3:=R2.out.keep kk (by omega) (fun b h=>by have:=m2 b h;omega)
  exact⟨_,_,_,_,rfl,(R1.out.below B2.out).keep kk (by omega) (by omega),⟨R3.blk,by omega,aM6 R3.row (fun b hb=>by have:=m2 b hb;omega)⟩,by omega,by omega,
   (B1.out.trans (((pAB BB.out).trans (B2.out.mono s2)).mono s1)).trans (kk.below (by omega) (fun k hk h=>by omega))⟩
end Go.Proofs.YtaeocliklpcgmaaGreat
