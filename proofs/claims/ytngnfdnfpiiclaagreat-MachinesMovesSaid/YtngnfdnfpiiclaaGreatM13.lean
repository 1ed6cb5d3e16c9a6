/- Pieces of one proof. -/
import Derived.Test.YtngnfdnfpiiclaaGreatM04
import Derived.Test.YtngnfdnfpiiclaaGreatM12
import Derived.Sort.Grow
set_option linter.all false
set_option maxHeartbeats 64000000
set_option maxRecDepth 100000
namespace Go.Proofs.YtngnfdnfpiiclaaGreat
open Go.RowKit
theorem fmay_any{w:World}{lp:Option Addr}{e0:Int}{has:Int→Bool}(h:aFn w lp e0 has)(o:Of)(tk pt want most:Int):
  Calls Tryz.prog 297 #[filV lp o tk pt want most] w (yR w (.bool (!(tk==o.ow) && has tk && has pt && has o.ow))):=by
 have bw:=(Below.refl w.heap.size w).alloc yL (.cells (filC lp o tk pt want most) 395);have C1:=yH (h.has _ bw tk);have C2:=yH (h.has _ bw pt);have C3:=yH (h.has _ bw o.ow);have B:=yH bw;clear bw h;unfold filV;generalize has tk=x at *;generalize has pt=y at *;generalize has o.ow=z at *;have hneq:(tk != o.ow)=!(tk==o.ow):=rfl;obtain⟨q,hq⟩:∃q,(tk==o.ow)=q:=⟨_,rfl⟩;rw[hq]at hneq ⊢;clear hq
 cases q
 ·cases x
  ·go_enter Tryz.func297,Tryz.ntmps297;go_wp2_with fail;refine C1.o.mono ?_;rintro e w1 ⟨rfl,rfl⟩;go_wp2_with fail;go_ret;exact⟨rfl,B.o⟩
  cases y
  ·go_enter Tryz.func297,Tryz.ntmps297;go_wp2_with fail;refine C1.o.mono ?_;rintro e w1 ⟨rfl,rfl⟩;go_wp2_with fail;refine C2.o.mono ?_;rintro e w1 ⟨rfl,rfl⟩;go_wp2_with fail;go_ret;exact⟨rfl,B.o⟩
  go_enter Tryz.func297,Tryz.ntmps297;go_wp2_with fail;refine C1.o.mono ?_;rintro e w1 ⟨rfl,rfl⟩;go_wp2_with fail;refine C2.o.mono ?_;rintro e w1 ⟨rfl,rfl⟩;go_wp2_with fail;refine C3.o.mono ?_;rintro e w1 ⟨rfl,rfl⟩;go_wp2_with fail;go_ret;exact⟨rfl,B.o⟩
 go_enter Tryz.func297,Tryz.ntmps297;go_wp2_with fail;go_ret;exact⟨rfl,B.o⟩
theorem aR5{w:World}{lp bp:Option Addr}{e0 N:Int}{has:Int→Bool}(h:aFn w lp e0 has)(hn:∀w',Below w.heap.size w w'→Calls Tryz.prog 60 #[.pointer bp] w' fun e w''=>e=.returned (.int .u64 N)∧w'=w''):
  Calls Tryz.prog 274 #[.agg #[.pointer lp,.pointer bp]] w (yR w (.bool (!(e0==2) && !(N==0)))):=by
 have bw:=(Below.refl w.heap.size w).alloc yL (.cells #[.pointer lp,.pointer bp] 80);have C1:=yH (h.open0 _ bw);have C2:=yH (hn _ bw);have B:=yH bw;clear bw h hn;have hneq:(e0 != 2)=!(e0==2):=rfl;obtain⟨q,hq⟩:∃q,(e0==2)=q:=⟨_,rfl⟩;rw[hq]at hneq ⊢;clear hq
 cases q
 ·have hneN:(N != 0)=!(N==0):=rfl;obtain⟨r,hr⟩:∃r,(N==0)=r:=⟨_,rfl⟩;rw[hr]at hneN ⊢;clear hr;go_enter Tryz.func274,Tryz.ntmps274;go_wp2_with fail;refine C1.o.mono ?_;rintro e w1 ⟨rfl,rfl⟩;go_wp2_with fail;refine C2.o.mono ?_;rintro e w1 ⟨rfl,rfl⟩;go_wp2_with fail;go_ret;exact⟨rfl,B.o⟩
 go_enter Tryz.func274,Tryz.ntmps274;go_wp2_with fail;refine C1.o.mono ?_;rintro e w1 ⟨rfl,rfl⟩;go_wp2_with fail;go_ret;exact⟨rfl,B.o⟩
theorem fitN_zero(nu de:Int):fitN 0 nu de=0:=by
 unfold fitN;split
 ·rw[Int.zero_mul,Int.zero_ediv];rfl
 rfl
theorem aHh{n v:Int}{vs:List Int}(h:min n v<1):aBj n (v::vs)=0:=if_pos h
theorem aFy{n v:Int}{vs:List Int}(h:¬min n v<1):aBj n (v::vs)=aBj (min n v) vs:=if_neg h
theorem least4{a b c d:Int}(hb:1≤b∧b≤1099511627776)(hc:0≤c)(hd:0≤d):aBj 1099511627776 [a,b,c,d]=if a<1 then 0 else min (min (min a b) c) d:=by
 by_cases h1:min 1099511627776 a<1
 ·rw[aHh h1,if_pos zQ]
 rw[aFy h1,if_neg zQ];rw[aFy zQ]
 by_cases h3:min (min (min 1099511627776 a) b) c<1
 ·rw[aHh h3];omega
 rw[aFy h3]
 by_cases h4:min (min (min (min 1099511627776 a) b) c) d<1
 ·rw[aHh h4];omega
 rw[aFy h4,aBj];omega
theorem least2{a b:Int}(hb:0≤b):aBj 1099511627776 [a,b]=if a<1 then 0 else min (min a 1099511627776) b:=by
 by_cases h1:min 1099511627776 a<1
 ·rw[aHh h1,if_pos zQ]
 rw[aFy h1,if_neg zQ]
 by_cases h3:min (min 1099511627776 a) b<1
 ·rw[aHh h3];omega
 rw[aFy h3,aBj];omega
theorem least_may{o:Of}{ps:List Int}{tk pt want most m1 m2:Int}(hr:o.ow≠tk∧o.ow∈ps∧tk∈ps∧pt∈ps)(hl:1≤o.lf∧o.lf≤1099511627776)(h1:0≤m1)(h2:0≤m2):
  aBj 1099511627776 [want,o.lf,(if pt=o.ow then 1099511627776 else m1),fitN (aBj 1099511627776 [most,m2]) o.nu o.de]=mayO o ps tk pt want most m1 m2:=by
 obtain⟨r1,r2,r3,r4⟩:=hr;rw[least4 hl (by split <;> omega) fitN_nn,least2 h2];unfold mayO
 by_cases hw:want<1
 ·rw[if_pos hw,if_pos (show o.ow=tk∨o.ow∉ps∨tk∉ps∨pt∉ps∨want<1∨most<1 from .inr (.inr (.inr (.inr (.inl hw)))))]
 rw[if_neg hw]
 by_cases hm:most<1
 ·rw[if_pos hm,if_pos (show o.ow=tk∨o.ow∉ps∨tk∉ps∨pt∉ps∨want<1∨most<1 from .inr (.inr (.inr (.inr (.inr hm))))),fitN_zero]
  by_cases hp:pt=o.ow
  ·rw[if_pos hp];omega
  rw[if_neg hp];omega
 rw[if_neg hm,if_neg (show ¬(o.ow=tk∨o.ow∉ps∨tk∉ps∨pt∉ps∨want<1∨most<1)from fun h=>by
  rcases h with h|h|h|h|h|h
  ·exact r1 h
  ·exact h r2
  ·exact h r3
  ·exact h r4
  ·exact hw h
  exact hm h)]
 by_cases hp:pt=o.ow
 ·rw[if_pos hp,if_pos hp];omega
 rw[if_neg hp,if_neg hp]
theorem hmay_none{w:World}{lp bp:Option Addr}{s:Int}(hf:∀w',Below w.heap.size w w'→Calls Tryz.prog 162 #[.pointer bp,.int .u64 s] w' fun e w''=>e=.returned (.tuple #[noOf.val,.bool false])∧Below w'.heap.size w' w'')(tk pt want most:Int):
  Calls Tryz.prog 273 #[.agg #[.pointer lp,.pointer bp],.int .u64 s,.int .u8 tk,.int .u8 pt,.int .i64 want,.int .i64 most] w (yR w (.int .i64 0)):=by
 have bw:=(Below.refl w.heap.size w).alloc yL (.cells #[.pointer lp,.pointer bp] 80);have CF:=yH (hf _ bw);have KX:=yH (Blk.new w #[.pointer lp,.pointer bp] 80);have B0:=yH bw;clear bw hf;unfold noOf Of.val at CF;dsimp only at CF;go_enter Tryz.func273,Tryz.ntmps273;go_wp2_with fail;generalize w.alloc (.cells #[.pointer lp,.pointer bp] 80)=W at *;refine CF.o.mono ?_;rintro e w1 ⟨rfl,b1⟩;have KX1:=yB KX b1;have B1:=yT B0 b1;clear b1 KX B0 CF;have e0:=KX1.o.cell 0;have e1:=KX1.o.cell 1;have kx:=KX1.o.lt;simp at e0 e1;go_wp2_with fail;go_ret;refine⟨rfl,B1.o.trans ?_⟩;exact((Below.alloc ((Below.refl w1.heap.size w1).alloc yL _) zV _)).mono B1.o.size
theorem hmay_any(HM:aEq):aCk:=by
 intro w base G M gb ps ls l N vb hL hI hP hJ s tk pt want most m1 m2 hs ht hto hw hmo hG
 cases hf:aAs l s with
 | none=>
  have e:mayV l ps s tk pt want most m1 m2=0:=by unfold mayV;rw[hf]
  rw[e];refine hmay_none (fun w' k=>?_) tk pt want most;have:=aJo (hP.below k) hJ.n1 s;rw[hf]at this;exact this
 | some o=>
  have bw:=(Below.refl w.heap.size w).alloc yL (.cells #[.pointer (some ⟨G,0,none⟩),.pointer (some ⟨gb,0,none⟩)] 80);have CF:=yH (aJo (hP.below bw) hJ.n1 s);rw[hf]at CF;have KX:=yH (Blk.new w #[.pointer (some ⟨G,0,none⟩),.pointer (some ⟨gb,0,none⟩)] 80);have B0:=yH bw;have L0:=yH (hL.below bw);have II:=yH hI;have HGo:=yH (hG o hf);have hmem:=(aB2 hf).1;have HF:=yH (hJ.fits hmem);have MY:=yH (hJ.may o hmem);obtain⟨R,hR⟩:∃R,mayV l ps s tk pt want most m1 m2=R:=⟨_,rfl⟩;rw[hR];have EV:Hid (R=mayO o ps tk pt want most m1 m2):=yH (by rw[←hR];unfold mayV;rw[hf]);clear hR;have HT:=yH ht;have HTo:=yH hto;have HW:=yH hw;have HMo:=yH hmo;have HMP:=yH HM;clear bw hL hI hP hJ hs ht hto hw hmo hG hf hmem HM;unfold aQ8 Of.val at CF;dsimp only at CF;go_enter Tryz.func273,Tryz.ntmps273;go_wp2_with fail;generalize w.alloc (.cells #[.pointer (some ⟨G,0,none⟩),.pointer (some ⟨gb,0,none⟩)] 80)=W at *;refine CF.o.mono ?_;rintro e w1 ⟨rfl,b1⟩;have KX1:=yB KX b1;have B1:=yT B0 b1;have L1:=yH (L0.o.below b1);clear b1 KX B0 CF L0;have e0:=KX1.o.cell 0;have e1:=KX1.o.cell 1;have kx:=KX1.o.lt;simp at e0 e1;have ba:=(Below.refl w1.heap.size w1).alloc yL (.cells #[.int .u64 o.se,.int .u8 o.ow,.int .u8 o.sl,.int .u8 o.bu,.int .i64 o.lf,.int .i64 o.nu,.int .i64 o.de] 75);have KF0:=yH (pAB (w1.alloc (.cells #[.int .u64 o.se,.int .u8 o.ow,.int .u8 o.sl,.int .u8 o.bu,.int .i64 o.lf,.int .i64 o.nu,.int .i64 o.de] 75)) (filC (some ⟨G,0,none⟩) o tk pt want most) 395 (g:=w1.heap.size+1) zV);have bb:=ba.alloc zV (.cells (filC (some ⟨G,0,none⟩) o tk pt want most) 395);have L2:=yH (L1.o.below bb);have B2:=yT B1 bb;have CM:=yH (fmay_any (aIr L2.o II.o) o tk pt want most);clear ba bb L1;go_wp2_with fail;generalize (w1.alloc (.cells #[.int .u64 o.se,.int .u8 o.ow,.int .u8 o.sl,.int .u8 o.bu,.int .i64 o.lf,.int .i64 o.nu,.int .i64 o.de] 75)).alloc (.cells #[.pointer (some ⟨G,0,none⟩),.int .u64 o.se,.int .u8 o.ow,.int .u8 o.sl,.int .u8 o.bu,.int .i64 o.lf,.int .i64 o.nu,.int .i64 o.de,.int .u8 tk,.int .u8 pt,.int .i64 want,.int .i64 most] 395)=W2 at *;clear e0 e1 kx;obtain⟨r,hr⟩:∃r,(!(tk==o.ow) && decide (tk∈ps) && decide (pt∈ps) && decide (o.ow∈ps))=r:=⟨_,rfl⟩;rw[hr]at CM
  cases r
  ·have EZ:Hid (R=0):=yH (by
    rw[EV.o];unfold mayO;rw[if_pos]
    by_cases c1:o.ow=tk
    ·exact .inl c1
    by_cases c2:o.ow∈ps
    ·by_cases c3:tk∈ps
     ·by_cases c4:pt∈ps
      ·have c5:¬tk=o.ow:=fun h=>c1 h.symm
       simp[c2,c3,c4,c5]at hr
      exact .inr (.inr (.inr (.inl c4)))
     exact .inr (.inr (.inl c3))
    exact .inr (.inl c2))
   clear hr EV;refine CM.o.mono ?_;rintro e w3 ⟨rfl,b3⟩;have B3:=yT B2 b3;clear b3;go_wp2_with fail;go_ret;exact⟨by rw[EZ.o];rfl,B3.o⟩
  have hok:o.ow≠tk∧o.ow∈ps∧tk∈ps∧pt∈ps:=by
   simp only[Bool.and_eq_true,Bool.not_eq_true',decide_eq_true_eq,beq_eq_false_iff_ne,ne_eq]at hr;obtain⟨⟨⟨h1,h2⟩,h3⟩,h4⟩:=hr;exact⟨fun h=>h1 h.symm,h4,h2,h3⟩
  have hb:=HGo.o.bd II.o;have EM:=yH (EV.o.trans (least_may (want:=want) (most:=most) hok MY.o.2.2.2.2.1 hb.1.1 hb.2.1).symm);have HS1:Hid (In64 (if pt=o.ow then 1099511627776 else m1)):=yH (by split <;> exact⟨zQ,zQ⟩)
  have HFt:Hid (In64 (fitN (aBj 1099511627776 [most,m2]) o.nu o.de)):=yH (by
   have h0:=fitN_nn (g:=aBj 1099511627776 [most,m2]) (nu:=o.nu) (de:=o.de);refine⟨zQ,?_⟩;unfold fitN;split <;> omega)
  clear hr EV hok hb;refine CM.o.mono ?_;rintro e w3 ⟨rfl,b3⟩;have KF3:=yB KF0 b3;have L3:=yH (L2.o.below b3);have B3:=yT B2 b3;clear b3 KF0 L2 B2 CM;have d0:=KF3.o.cell 0;have d1:=KF3.o.cell 1;have d2:=KF3.o.cell 2;have d3:=KF3.o.cell 3;have d4:=KF3.o.cell 4;have d5:=KF3.o.cell 5;have d6:=KF3.o.cell 6;have d7:=KF3.o.cell 7;have d8:=KF3.o.cell 8;have d9:=KF3.o.cell 9;have d10:=KF3.o.cell 10;have d11:=KF3.o.cell 11;simp at d0 d1 d2 d3 d4 d5 d6 d7 d8 d9 d10 d11;have HB1:Hid (Bnd w3 (filV (some ⟨G,0,none⟩) o tk pt want most) (299,want)):=yH ⟨enters_of Tryz.func299 zW rfl,fun w' k=>aUc _ o tk pt want most w'⟩;have HB2:Hid (Bnd w3 (filV (some ⟨G,0,none⟩) o tk pt want most) (300,o.lf)):=yH ⟨enters_of Tryz.func300 zW rfl,fun w' k=>fleft_any _ o tk pt want most w'⟩;have HB3:Hid (Bnd w3 (filV (some ⟨G,0,none⟩) o tk pt want most) (301,if pt=o.ow then 1099511627776 else m1)):=yH ⟨enters_of Tryz.func301 zW rfl,fun w' k=>fsold_any HMP.o (L3.o.below k) II.o HF.o tk pt want most HTo.o HGo.o⟩;have HB4:Hid (Bnd w3 (filV (some ⟨G,0,none⟩) o tk pt want most) (302,fitN (aBj 1099511627776 [most,m2]) o.nu o.de)):=yH ⟨enters_of Tryz.func302 zW rfl,fun w' k=>ffits_any HMP.o (L3.o.below k) II.o HF.o tk pt want most HT.o HMo.o HGo.o⟩;have bk:=(Below.refl w3.heap.size w3).alloc yL (.cells #[.func (.func 299) #[filV (some ⟨G,0,none⟩) o tk pt want most] #[],.func (.func 300) #[filV (some ⟨G,0,none⟩) o tk pt want most] #[],.func (.func 301) #[filV (some ⟨G,0,none⟩) o tk pt want most] #[],.func (.func 302) #[filV (some ⟨G,0,none⟩) o tk pt want most] #[]] 124);have kk:=Blk.new w3 #[.func (.func 299) #[filV (some ⟨G,0,none⟩) o tk pt want most] #[],.func (.func 300) #[filV (some ⟨G,0,none⟩) o tk pt want most] #[],.func (.func 301) #[filV (some ⟨G,0,none⟩) o tk pt want most] #[],.func (.func 302) #[filV (some ⟨G,0,none⟩) o tk pt want most] #[]] 124
  have CL:=yH (aR2 (bs:=[(299,want),(300,o.lf),(301,if pt=o.ow then 1099511627776 else m1),(302,fitN (aBj 1099511627776 [most,m2]) o.nu o.de)]) (rv:=filV (some ⟨G,0,none⟩) o tk pt want most) kk
   (by intro b hb;simp only[yI,yJ,or_false]at hb;rcases hb with rfl|rfl|rfl|rfl;exact HB1.o.below bk;exact HB2.o.below bk;exact HB3.o.below bk;exact HB4.o.below bk)
   (by intro b hb;simp only[yI,yJ,or_false]at hb;rcases hb with rfl|rfl|rfl|rfl;exact HW.o;exact HF.o.lf;exact HS1.o;exact HFt.o) zV)
  have B4:=yT B3 bk;rw[show List.map (fun x:Nat×Int=>x.2) [(299,want),(300,o.lf),(301,if pt=o.ow then 1099511627776 else m1),(302,fitN (aBj 1099511627776 [most,m2]) o.nu o.de)]=[want,o.lf,if pt=o.ow then 1099511627776 else m1,fitN (aBj 1099511627776 [most,m2]) o.nu o.de]from rfl,←EM.o]at CL;clear bk kk HB1 HB2 HB3 HB4;go_wp2_with fail;refine CL.o.mono ?_;rintro e w4 ⟨rfl,b4⟩;have B5:=yT B4 b4;clear b4 d0 d1 d2 d3 d4 d5 d6 d7 d8 d9 d10 d11;go_wp2_with fail;go_ret;exact⟨rfl,B5.o⟩
theorem blk_ne{w:World}{g h:Nat}{cs ds:Array Value}{t u:TypeId}(a:Blk w g cs t)(b:Blk w h ds u)(hn:t≠u):g≠h:=by
 rintro rfl;have e:=a.out;rw[b.out]at e;simp only[Option.some.injEq,Obj.cells.injEq]at e;exact hn e.2.1.symm
theorem PB.ne_map{w:World}{base g G M:Nat}{ps:List Int}{ls:List Ln}{l:List Of}{N:Int}{vl:Value}(h:PB w base g l N vl)(k:LedM w G M ps ls):(¬g=M∧∀b,vl.ownBlock=some b→¬b=M)∧¬Foot g vl G∧¬Foot g vl M:=by
 have h1:¬g=M:=fun e=>k.map.ne_blk h.blk e.symm
 have h2:∀b,vl.ownBlock=some b→¬b=M:=fun b hb e=>by
  obtain⟨_,_,cur,hc⟩:=aAf h.row hb;have hB:Blk w b cur _:=hc;exact k.map.ne_blk hB e.symm
 have h3:¬G=g:=fun e=>by have:=blk_ne k.blk h.blk zX;exact this e
 have h4:¬vl.ownBlock=some G:=fun e=>aB3 h.row k.blk zX G e rfl
 exact⟨⟨h1,h2⟩,fun e=>e.elim h3 h4,fun e=>e.elim (fun q=>h1 q.symm) (fun q=>h2 M q rfl)⟩
theorem Keep.freshRow{S:Nat→Prop}{a w:World}(h:Keep S a w){g:Nat}(hg:a.heap.size≤g)(cs:Array Value):Keep S a (w.setRow g cs):=
 have k:=aAc (w:=w) g cs
 ⟨k.os.trans h.os,k.tape.trans h.tape,k.output.trans h.output,Nat.le_trans h.size k.size,fun i hi hs=>(k.block i (yM hi h.size) zQ).trans (h.block i hi hs)⟩
theorem hdo_void{w:World}{lp bp:Option Addr}{e0 N:Int}{has:Int→Bool}(h:aFn w lp e0 has)(hn:∀w',Below w.heap.size w w'→Calls Tryz.prog 60 #[.pointer bp] w' fun e w''=>e=.returned (.int .u64 N)∧w'=w'')(he:e0=2∨N=0)(s tk pt n:Int):
  Calls Tryz.prog 235 #[.agg #[.pointer lp,.pointer bp],.int .u64 s,.int .u8 tk,.int .u8 pt,.int .i64 n] w (yR w (.tuple #[aId,.int .i64 2])):=by
 have b1:=(Below.refl w.heap.size w).alloc yL (.cells #[.pointer lp,.pointer bp] 80);have k1:=Blk.new w #[.pointer lp,.pointer bp] 80;generalize hW1:w.alloc (.cells #[.pointer lp,.pointer bp] 80)=W1 at *;have b2:=(Below.refl W1.heap.size W1).alloc yL (.cells #[.int .u64 0,.int .u8 0,.int .u8 0,.int .i64 0,.int .i64 0] 241);have k2:=Blk.new W1 #[.int .u64 0,.int .u8 0,.int .u8 0,.int .i64 0,.int .i64 0] 241;generalize hW2:W1.alloc (.cells #[.int .u64 0,.int .u8 0,.int .u8 0,.int .i64 0,.int .i64 0] 241)=W2 at *;have HW1:=yH hW1;have HW2:=yH hW2;have hg1:W1.heap.size=w.heap.size+1:=by rw[←hW1];simp
 rw[hg1]at k2;have KX:=yH (k1.below b2 k1.lt);have KF:=yH k2;have B2:=yH (b1.trans (b2.mono b1.size));have CM:=yH (aR5 (h.below B2.o) (fun w' k=>hn w' (andB B2.o k)));rw[show(!(e0==2) && !(N==0))=false by rcases he with rfl|rfl <;> simp]at CM;clear h hn he b1 k1 b2 k2 hW1 hW2 hg1;go_enter Tryz.func235,Tryz.ntmps235
 go_upto_region 1 with fail
 rw[HW1.o,HW2.o];have e0:=KX.o.cell 0;have e1:=KX.o.cell 1;simp at e0 e1;go_wp2_with fail;refine CM.o.mono ?_;rintro e w1 ⟨rfl,b1⟩;have KF1:=yB KF b1;have B1:=yT B2 b1;clear b1 e0 e1 KX KF B2 CM;go_wp2_with (refine aAa rfl 241 (.tmp 10) (.tmp 20) rfl (w.heap.size+1) #[.int .u64 0,.int .u8 0,.int .u8 0,.int .i64 0,.int .i64 0] rfl rfl 241 _ KF1.o.out zW rfl zK ?_);refine bodyPost_ret (v:=.tuple #[aId,.int .i64 2]) (aAj rfl _ _ (w.heap.size+1) 241 #[.int .u64 0,.int .u8 0,.int .u8 0,.int .i64 0,.int .i64 0] _ _ rfl (setRow_heap _ (w.heap.size+1) _ _ _ (0,0) KF1.o.out) Tryz.underlying241 rfl zW rfl) rfl ⟨rfl,below_setRow B1.o zQ _⟩
theorem hdo_any(HR:aEe)(HMP:aEq):aD4:=by
 intro w base G M gb ps ls l N vb hL hI hP hJ s tk pt n m1 m2 hs ht hto hn hG;have b1:=(Below.refl w.heap.size w).alloc yL (.cells #[.pointer (some ⟨G,0,none⟩),.pointer (some ⟨gb,0,none⟩)] 80);have k1:=Blk.new w #[.pointer (some ⟨G,0,none⟩),.pointer (some ⟨gb,0,none⟩)] 80;generalize hW1:w.alloc (.cells #[.pointer (some ⟨G,0,none⟩),.pointer (some ⟨gb,0,none⟩)] 80)=W1 at *;have b2:=(Below.refl W1.heap.size W1).alloc yL (.cells #[.int .u64 0,.int .u8 0,.int .u8 0,.int .i64 0,.int .i64 0] 241);have k2:=Blk.new W1 #[.int .u64 0,.int .u8 0,.int .u8 0,.int .i64 0,.int .i64 0] 241;generalize hW2:W1.alloc (.cells #[.int .u64 0,.int .u8 0,.int .u8 0,.int .i64 0,.int .i64 0] 241)=W2 at *;have HW1:=yH hW1;have HW2:=yH hW2;have hg1:W1.heap.size=w.heap.size+1:=by rw[←hW1];simp
 rw[hg1]at k2;have KX:=yH (k1.below b2 k1.lt);have KF:=yH k2;have B2:=yH (b1.trans (b2.mono b1.size));have L0:=yH ((hL.below b1).below b2);have P0:=yH ((hP.below b1).below b2);have II:=yH hI;have JJ:=yH hJ;have HT:=yH ht;have HTo:=yH hto;have HN:=yH hn;have HGo:=yH hG;have HRo:=yH HR;have hG1:=hL.blk.lt;have hM1:=hL.map.lt;have hb1:=hP.blk.lt;have HGL:=yH hG1;have HML:=yH hM1;have HBL:=yH hb1;have HFO:Hid (∀b,Foot gb vb b→b<w.heap.size):=yH (fun b hb=>(hP.lt hb).2);have CMd:=yH (aR5 (N:=N) (aIr L0.o II.o) (fun w' k=>aJm (P0.o.below k).blk));rw[show(!((1:Int)==2) && !(N==0))=true by have:=hJ.n1;simp;omega]at CMd;have CM:=yH (fun w' (k:Below W2.heap.size W2 w')=>hmay_any HMP (L0.o.below k) hI (P0.o.below k) hJ s tk pt n 1099511627776 m1 m2 hs ht hto hn ⟨zQ,zQ⟩ hG);clear b1 k1 b2 k2 hW1 hW2 hL hI hP hJ hs ht hto hn hG hg1 hG1 hM1 hb1 HR HMP;go_enter Tryz.func235,Tryz.ntmps235
 go_upto_region 1 with fail
 rw[HW1.o,HW2.o];have e0:=KX.o.cell 0;have e1:=KX.o.cell 1;simp at e0 e1;go_wp2_with fail;refine CMd.o.mono ?_;rintro e w0 ⟨rfl,b0⟩;have CM0:=yH (CM.o w0 b0);have KX0:=yB KX b0;have KF0:=yB KF b0;have L1:=yH (L0.o.below b0);have P1:=yH (P0.o.below b0);have B0:=yT B2 b0;clear b0 e0 e1 KX KF B2 CMd CM L0 P0;have e0:=KX0.o.cell 0;have e1:=KX0.o.cell 1;simp at e0 e1
 by_cases h1:n<1
 ·have q1:decide (n<1)=true:=zR
  have NO:Hid (¬doOk l ps s tk pt n m1 m2):=yH (fun h=>uV h.1);clear h1;go_wp2_with (refine aAa rfl 241 (.tmp 10) (.tmp 34) rfl (w.heap.size+1) #[.int .u64 0,.int .u8 0,.int .u8 0,.int .i64 0,.int .i64 0] rfl rfl 241 _ KF0.o.out zW rfl zK ?_);refine bodyPost_ret (v:=.tuple #[aId,.int .i64 1]) (aAj rfl _ _ (w.heap.size+1) 241 #[.int .u64 0,.int .u8 0,.int .u8 0,.int .i64 0,.int .i64 0] _ _ rfl (setRow_heap _ (w.heap.size+1) _ _ _ (0,0) KF0.o.out) Tryz.underlying241 rfl zW rfl) rfl (.inl ⟨NO.o,rfl,below_setRow B0.o zQ _⟩)
 have q1:decide (n<1)=false:=zR
 go_wp2_with fail;refine CM0.o.mono ?_;rintro e w1 ⟨rfl,b1⟩;have KX1:=yB KX0 b1;have KF1:=yB KF0 b1;have L2:=yH (L1.o.below b1);have P2:=yH (P1.o.below b1);have B1:=yT B0 b1;clear b1 e0 e1 KX0 KF0 L1 P1 B0 CM0;have e0:=KX1.o.cell 0;have e1:=KX1.o.cell 1;simp at e0 e1
 by_cases h2:n≤mayV l ps s tk pt n 1099511627776 m1 m2
 ·have q2:decide (mayV l ps s tk pt n 1099511627776 m1 m2<n)=false:=zF
  have hOK:doOk l ps s tk pt n m1 m2:=⟨zQ,h2⟩;obtain⟨o,hf,⟨c1,c2,c3,c4⟩,h3,h4,h5⟩:=hOK.facts;have hGo:=(HGo.o o hf).bd II.o;have hmem:=(aB2 hf).1;have hmay:=JJ.o.may o hmem;have FT:=yH (JJ.o.fits hmem);obtain⟨_,_,_,_,_,hmy⟩:=hmay;obtain⟨x,hx⟩:∃x,upN (n*o.nu) o.de=x:=⟨_,rfl⟩;obtain⟨u1,u2,u3⟩:=aTu hmy (g:=min 1099511627776 m2) zQ zQ zQ h5;rw[hx]at u1 u2 u3;have CU:=yH (fun w=>rup_rat n o.nu o.de w HN.o FT.o.nu FT.o.de);rw[u1]at CU;have HX:=yH hx;have HOK:=yH hOK;have HF:=yH hf;have CF:=yH (aJo P2.o JJ.o.n1 s);rw[hf]at CF;dsimp only[aQ8,Of.val]at CF;have hx64:Hid (In64 x):=yH ⟨zQ,zQ⟩;clear hOK hGo hmem hmy u1 u2 u3 hx hf h5 h4 h3 c1 c2 c3 c4;generalize mayV l ps s tk pt n 1099511627776 m1 m2=mm at *;clear h2;go_wp2_with fail;refine CF.o.mono ?_;rintro e w2 ⟨rfl,b2⟩;have bo:=(Below.refl w2.heap.size w2).alloc yL (.cells #[.int .u64 o.se,.int .u8 o.ow,.int .u8 o.sl,.int .u8 o.bu,.int .i64 o.lf,.int .i64 o.nu,.int .i64 o.de] 75);have KO:=yH (Blk.new w2 #[.int .u64 o.se,.int .u8 o.ow,.int .u8 o.sl,.int .u8 o.bu,.int .i64 o.lf,.int .i64 o.nu,.int .i64 o.de] 75);have b3:=b2.trans (bo.mono b2.size);have KX2:=yB KX1 b3;have KF2:=yB KF1 b3;have L3:=yH (L2.o.below b3);have P3:=yH (P2.o.below b3);have B3:=yT B1 b3;have HSZ:Hid (w.heap.size≤w2.heap.size):=yH (B1.o.trans (b2.mono B1.o.size)).size;clear b2 b3 bo e0 e1 KX1 KF1 L2 P2 B1 CF;have e0:=KX2.o.cell 0;have e1:=KX2.o.cell 1;simp at e0 e1;have d0:=KO.o.cell 0;have d1:=KO.o.cell 1;have d2:=KO.o.cell 2;have d3:=KO.o.cell 3;have d4:=KO.o.cell 4;have d5:=KO.o.cell 5;have d6:=KO.o.cell 6;simp at d0 d1 d2 d3 d4 d5 d6;go_wp2_with fail;refine(CU.o _).mono ?_;rintro e w3 ⟨rfl,b3⟩;have KX3:=yB KX2 b3;have KO3:=yB KO b3;have KF3:=yB KF2 b3;have L4:=yH (L3.o.below b3);have P4:=yH (P3.o.below b3);have B4:=yT B3 b3;clear b3 CU KX2 KO KF2 L3 P3 B3;clear e0 e1 d0 d1 d2 d3 d4 d5 d6;have e0:=KX3.o.cell 0;have e1:=KX3.o.cell 1;simp at e0 e1;have d0:=KO3.o.cell 0;have d1:=KO3.o.cell 1;have d2:=KO3.o.cell 2;have d3:=KO3.o.cell 3;have d4:=KO3.o.cell 4;have d5:=KO3.o.cell 5;have d6:=KO3.o.cell 6;simp at d0 d1 d2 d3 d4 d5 d6
  by_cases hp:pt=o.ow
  ·have q3:(pt != o.ow)=false:=y9
   have HP:=yH hp;clear hp;have BK:Hid (Keep (fun k=>k=G∨k=M∨Foot gb vb k) w w3):=yH (pAD B4.o);clear B4;have KXA:=KX3;have KFA:=KF3;have LA:=L4;have PA:=P4;clear KX3 KF3 KO3 L4 P4;obtain⟨τ,hτ⟩:=aD0 (aAz II.o o.bu) tk o.ow x;have HTAU:=yH hτ;have CP:=yH (aLt HRo.o LA.o II.o HT.o FT.o.ow FT.o.bu hx64.out hτ);clear hτ;go_wp2_with fail;refine CP.o.mono ?_;rintro e w6 ⟨rfl,r6,k6⟩;have AP:=(PA.o.ne_map LA.o).1;have KX6:=yH (KXA.o.keep k6 yP);have KF6:=yH (KFA.o.keep k6 yP);have P6:=yH (PA.o.keep k6 AP.1 AP.2);have B6:=yH (BK.o.trans (k6.mono (fun k _ h=>Or.inr (Or.inl h))));have L6:=yH r6;clear CP r6 k6 AP KXA KFA PA LA BK;clear e0 e1 d0 d1 d2 d3 d4 d5 d6;have e0:=KX6.o.cell 0;have e1:=KX6.o.cell 1;simp at e0 e1;have CK:=yH (aRb P6.o JJ.o s n);go_wp2_with fail;refine CK.o.mono ?_;rintro e w7 ⟨rfl,vb7,r7,k7,mv7⟩;have AP:=(P6.o.ne_map L6.o).2;have hgz:¬Foot gb vb (w.heap.size+1):=fun h=>uV (HFO.o _ h)
   have KF7:=yH (KF6.o.keep k7 hgz);have L7:=yH (L6.o.keep k7 AP.1 AP.2);have B7:=yH (B6.o.trans (k7.mono (fun k _ h=>Or.inr (Or.inr h))));have P7:=yH r7;have MV:=yH (mv7.of_le B6.o.size);clear CK r7 k7 mv7 AP hgz KX6 KF6 P6 L6 B6;clear e0 e1;go_wp2_with (refine aAa rfl 241 (.tmp 10) (.tmp 81) rfl (w.heap.size+1) #[.int .u64 s,.int .u8 tk,.int .u8 pt,.int .i64 n,.int .i64 x] rfl rfl 241 _ KF7.o.out zW rfl zK ?_);refine bodyPost_ret (v:=.tuple #[.agg #[.int .u64 s,.int .u8 tk,.int .u8 pt,.int .i64 n,.int .i64 x],.int .i64 0]) (aAj rfl _ _ (w.heap.size+1) 241 #[.int .u64 s,.int .u8 tk,.int .u8 pt,.int .i64 n,.int .i64 x] _ _ rfl (setRow_heap _ (w.heap.size+1) _ _ _ (0,0) KF7.o.out) Tryz.underlying241 rfl zW rfl) rfl (.inr ⟨HOK.o,o,x,_,vb7,HF.o,HX.o.symm,⟨ls,τ,(.inl ⟨HP.o,rfl⟩),HTAU.o,rfl⟩,rfl,?_,?_,B7.o.freshRow zQ _,MV.o⟩)
   ·exact L7.o.keep (aAc _ _) (uV HGL.o) yP
   refine P7.o.keep (aAc _ _) (uV HBL.o) (fun b hb h=>?_);subst h;exact aB3 P7.o.row KF7.o zX _ hb rfl
  have q3:(pt != o.ow)=true:=y9
  have HP:=yH hp;clear hp;obtain⟨σ,hσ⟩:=aD0 (aAz II.o o.sl) o.ow pt n;have HSG:=yH hσ;have CP:=yH (aLt HRo.o L4.o II.o FT.o.ow HTo.o FT.o.sl HN.o hσ);clear hσ;go_wp2_with fail;refine CP.o.mono ?_;rintro e w5 ⟨rfl,r5,k5⟩;have AP:=(P4.o.ne_map L4.o).1;have KXA:=yH (KX3.o.keep k5 yP);have KFA:=yH (KF3.o.keep k5 yP);have KOA:=yH (KO3.o.keep k5 (uQ HML.o HSZ.o));have PA:=yH (P4.o.keep k5 AP.1 AP.2);have BK:Hid (Keep (fun k=>k=G∨k=M∨Foot gb vb k) w w5):=yH ((pAD B4.o).trans (k5.mono (fun k _ h=>Or.inr (Or.inl h))));have LA:=yH r5;have IA:=yH (aLs II.o o.ow pt o.sl n σ);clear CP r5 k5 AP KX3 KF3 KO3 P4 L4 B4;clear e0 e1 d0 d1 d2 d3 d4 d5 d6;have RT:Hid (∃a,aAl (aAw ps ls o.sl) 4398046511104 o.ow pt n a∧payL ps ls o.ow pt o.sl n σ=payL ps ls o.ow pt o.sl n a):=yH ⟨σ,HSG.o,rfl⟩;clear HSG;generalize payL ps ls o.ow pt o.sl n σ=ls4 at *;have e0:=KXA.o.cell 0;have e1:=KXA.o.cell 1;simp at e0 e1;have d0:=KOA.o.cell 0;have d1:=KOA.o.cell 1;have d2:=KOA.o.cell 2;have d3:=KOA.o.cell 3;have d4:=KOA.o.cell 4;have d5:=KOA.o.cell 5;have d6:=KOA.o.cell 6;simp at d0 d1 d2 d3 d4 d5 d6;obtain⟨τ,hτ⟩:=aD0 (aAz IA.o o.bu) tk o.ow x;have HTAU:=yH hτ;have CP:=yH (aLt HRo.o LA.o IA.o HT.o FT.o.ow FT.o.bu hx64.out hτ);clear hτ;go_wp2_with fail;refine CP.o.mono ?_;rintro e w6 ⟨rfl,r6,k6⟩;have AP:=(PA.o.ne_map LA.o).1;have KX6:=yH (KXA.o.keep k6 yP);have KF6:=yH (KFA.o.keep k6 yP);have P6:=yH (PA.o.keep k6 AP.1 AP.2);have B6:=yH (BK.o.trans (k6.mono (fun k _ h=>Or.inr (Or.inl h))));have L6:=yH r6;clear CP r6 k6 AP KXA KFA PA LA BK KOA;clear e0 e1 d0 d1 d2 d3 d4 d5 d6;have e0:=KX6.o.cell 0;have e1:=KX6.o.cell 1;simp at e0 e1;have CK:=yH (aRb P6.o JJ.o s n);go_wp2_with fail;refine CK.o.mono ?_;rintro e w7 ⟨rfl,vb7,r7,k7,mv7⟩;have AP:=(P6.o.ne_map L6.o).2;have hgz:¬Foot gb vb (w.heap.size+1):=fun h=>uV (HFO.o _ h)
  have KF7:=yH (KF6.o.keep k7 hgz);have L7:=yH (L6.o.keep k7 AP.1 AP.2);have B7:=yH (B6.o.trans (k7.mono (fun k _ h=>Or.inr (Or.inr h))));have P7:=yH r7;have MV:=yH (mv7.of_le B6.o.size);clear CK r7 k7 mv7 AP hgz KX6 KF6 P6 L6 B6;clear e0 e1;go_wp2_with (refine aAa rfl 241 (.tmp 10) (.tmp 81) rfl (w.heap.size+1) #[.int .u64 s,.int .u8 tk,.int .u8 pt,.int .i64 n,.int .i64 x] rfl rfl 241 _ KF7.o.out zW rfl zK ?_);refine bodyPost_ret (v:=.tuple #[.agg #[.int .u64 s,.int .u8 tk,.int .u8 pt,.int .i64 n,.int .i64 x],.int .i64 0]) (aAj rfl _ _ (w.heap.size+1) 241 #[.int .u64 s,.int .u8 tk,.int .u8 pt,.int .i64 n,.int .i64 x] _ _ rfl (setRow_heap _ (w.heap.size+1) _ _ _ (0,0) KF7.o.out) Tryz.underlying241 rfl zW rfl) rfl (.inr ⟨HOK.o,o,x,_,vb7,HF.o,HX.o.symm,⟨ls4,τ,(.inr ⟨HP.o,RT.o⟩),HTAU.o,rfl⟩,rfl,?_,?_,B7.o.freshRow zQ _,MV.o⟩)
  ·exact L7.o.keep (aAc _ _) (uV HGL.o) yP
  refine P7.o.keep (aAc _ _) (uV HBL.o) (fun b hb h=>?_);subst h;exact aB3 P7.o.row KF7.o zX _ hb rfl
 have q2:decide (mayV l ps s tk pt n 1099511627776 m1 m2<n)=true:=zF
 have NO:Hid (¬doOk l ps s tk pt n m1 m2):=yH (fun h=>h2 h.2);clear h2;generalize mayV l ps s tk pt n 1099511627776 m1 m2=mm at *;go_wp2_with (refine aAa rfl 241 (.tmp 10) (.tmp 34) rfl (w.heap.size+1) #[.int .u64 0,.int .u8 0,.int .u8 0,.int .i64 0,.int .i64 0] rfl rfl 241 _ KF1.o.out zW rfl zK ?_);refine bodyPost_ret (v:=.tuple #[aId,.int .i64 1]) (aAj rfl _ _ (w.heap.size+1) 241 #[.int .u64 0,.int .u8 0,.int .u8 0,.int .i64 0,.int .i64 0] _ _ rfl (setRow_heap _ (w.heap.size+1) _ _ _ (0,0) KF1.o.out) Tryz.underlying241 rfl zW rfl) rfl (.inl ⟨NO.o,rfl,below_setRow B1.o zQ _⟩)
theorem aR6{w:World}{b o:Nat}{ls:List Of}(h:∀j,j<ls.length*7→w.cell? ⟨b,o+j,none⟩=(aAb ls)[j]?){k:Nat}(hk:k<ls.length):
  w.cell? ⟨b,o+k*7,none⟩=some (.int .u64 ls[k].se)∧w.cell? ⟨b,o+k*7+1,none⟩=some (.int .u8 ls[k].ow)∧w.cell? ⟨b,o+k*7+2,none⟩=some (.int .u8 ls[k].sl)∧w.cell? ⟨b,o+k*7+3,none⟩=some (.int .u8 ls[k].bu)∧w.cell? ⟨b,o+k*7+4,none⟩=some (.int .i64 ls[k].lf)∧w.cell? ⟨b,o+k*7+5,none⟩=some (.int .i64 ls[k].nu)∧w.cell? ⟨b,o+k*7+6,none⟩=some (.int .i64 ls[k].de):=by
 have q:∀j,j<7→w.cell? ⟨b,o+k*7+j,none⟩=ls[k].vals[j]? := fun j hj=>by
  have:=h (k*7+j) zQ;rw[aAe ls k j hj hk,←Nat.add_assoc]at this;exact this
 exact⟨q 0 zQ,q 1 zQ,q 2 zQ,q 3 zQ,q 4 zQ,q 5 zQ,q 6 zQ⟩
structure OkTo(l:List Of)(last:Int):Prop where
 rise:l.Pairwise fun x y=>x.se<y.se
 ok:∀x∈l,x.may∧1≤x.se∧x.se≤last
 last:(l=[]∧last=0)∨∃x∈l,x.se=last
theorem OkTo.nil:OkTo [] 0:=⟨List.Pairwise.nil,zV,.inl ⟨rfl,rfl⟩⟩
theorem OkTo.nonneg{l:List Of}{last:Int}(h:OkTo l last):0≤last:=by
 rcases h.last with⟨_,h⟩|⟨x,hx,h⟩
 ·omega
 have:=(h ▸ (‹OkTo l last›).ok x hx).2.1;omega
theorem OkTo.next{l:List Of}{last:Int}{k:Nat}(hk:k<l.length)(h:OkTo (l.take k) last)(hm:l[k].may)(hs:last<l[k].se):OkTo (l.take (k+1)) l[k].se:=by
 have h0:=h.nonneg;rw[List.take_succ_eq_append_getElem hk];refine⟨?_,fun x hx=>?_,.inr ⟨l[k],List.mem_append_right _ (List.mem_singleton.2 rfl),rfl⟩⟩
 ·rw[List.pairwise_append];refine⟨h.rise,zV,fun a ha b hb=>?_⟩;rw[List.mem_singleton]at hb;subst hb;have:=(h.ok a ha).2.2;omega
 rcases List.mem_append.1 hx with hx|hx
 ·obtain⟨a,b,c⟩:=h.ok x hx;exact⟨a,b,zQ⟩
 rw[List.mem_singleton]at hx;subst hx;exact⟨hm,zQ,Int.le_refl _⟩
theorem OkTo.good{l:List Of}{last nx:Int}(h:OkTo l last)(hn:last<nx):okO nx l∧nx≠0:=by
 have:=h.nonneg;exact⟨⟨h.rise,fun x hx=>by obtain⟨a,b,c⟩:=h.ok x hx;exact⟨a,zQ,zQ⟩⟩,zQ⟩
theorem OkTo.bad{l:List Of}{last nx:Int}{k:Nat}(hk:k<l.length)(h:OkTo (l.take k) last)(h0:0≤l[k].se)(hb:¬l[k].may∨l[k].se≤last):¬(okO nx l∧nx≠0):=by
 rintro⟨⟨h1,h2⟩,_⟩;obtain⟨m,z,_⟩:=h2 _ (List.getElem_mem hk);rcases hb with hb|hb
 ·exact hb m
 rcases h.last with⟨_,e⟩|⟨x,hx,e⟩
 ·omega
 obtain⟨j,hj,rfl⟩:=List.mem_take_iff_getElem.1 hx;have:=List.pairwise_iff_getElem.1 h1 j k zQ hk zQ;omega
theorem OkTo.late{l:List Of}{last nx:Int}(h:OkTo l last)(h0:0≤nx)(hb:nx≤last):¬(okO nx l∧nx≠0):=by
 rintro⟨⟨_,h2⟩,hz⟩;rcases h.last with⟨_,e⟩|⟨x,hx,e⟩
 ·omega
 have:=(h2 x hx).2.2;omega
def POfPost(w:World)(l:List Of)(nx:Int)(e:Ending)(w':World):Prop:=
 Below w.heap.size w w'∧((l.length≤32∧okO nx l∧nx≠0∧∃g vl,e=.returned (.tuple #[.pointer (some ⟨g,0,none⟩),.int .i64 0])∧PB w' w.heap.size g l nx vl)∨
  (e=.returned (.tuple #[.pointer none,.int .i64 9])∧32<l.length)∨(e=.returned (.tuple #[.pointer none,.int .i64 1])∧l.length≤32∧¬(okO nx l∧nx≠0)))
def POfAt(w:World)(l:List Of)(nx:Int)(s7 s18:Value)(wr:World):Prop:=
 ∃(k:Nat) (last:Int) (vl:Value),k≤l.length∧s18=.int .i64 k∧s7=.int .u64 last∧OkTo (l.take k) last∧PB wr w.heap.size w.heap.size (l.take k) nx vl∧Below w.heap.size w wr
theorem pofB_any{w:World}{v:Value}{l:List Of}{nx:Int}(hp:aB4 w v 7 l.length (aAb l))(hf:∀x∈l,x.Fits)(h0:0≤nx)(h1:nx≤18446744073709551615):
  Calls Tryz.prog 66 #[v,.int .u64 nx] w (POfPost w l nx):=by
 obtain⟨ai,capi,hv,hn,hxl,hrd⟩:=hp;subst hv;have HR:=yH hrd;have HF:=yH hf;clear hxl hrd hf
 by_cases h32:32<l.length
 ·have q0:decide (32<(l.length:Int))=true:=zU
  have H32:=yH h32;clear h32;go_enter Tryz.func66,Tryz.ntmps66;go_wp2_with fail;refine bodyPost_ret (v:=.tuple #[.pointer none,.int .i64 9]) yK rfl ?_;exact⟨yZ,.inr (.inl ⟨rfl,H32.o⟩)⟩
 have q0:decide (32<(l.length:Int))=false:=zU
 have h32:l.length≤32:=zQ
 have KG:=yH (Blk.new w #[.slice none 0 0,.int .u64 nx] 158);have B0:=yH ((Below.refl w.heap.size w).alloc yL (.cells #[.slice none 0 0,.int .u64 nx] 158));go_enter Tryz.func66,Tryz.ntmps66;go_wp2_with fail
 go_loopw [7,18] (POfAt w l nx) (fun _ i _=>l.length - (intOf i).toNat)
 case atStart=>exact⟨0,0,.slice none 0 0,Nat.zero_le _,rfl,rfl,OkTo.nil,⟨KG.o,Nat.le_refl _,World.ownsRow_nil _ _ _ _⟩,B0.o⟩
 obtain⟨k,last,vl,hk,rfl,rfl,hO,hP,hb⟩:=hrel
 by_cases hkl:k<l.length
 ·obtain⟨b,o,rfl,hbl,hcell⟩:=HR.o zQ;obtain⟨e0,e1,e2,e3,e4,e5,e6⟩:=aR6 (w:=wr) (fun j hj=>by rw[hb.cell (p:=⟨b,o+j,none⟩) hbl];exact hcell j hj) hkl;have hx:=HF.o _ (List.getElem_mem hkl);have BD:=yH (fun h=>OkTo.bad (nx:=nx) hkl hO hx.se.1 h);have NX:=yH (fun h1 h2=>OkTo.next hkl hO h1 h2);have TK:=yH (List.take_succ_eq_append_getElem hkl);have hlk:(l.take k).length≤32:=Nat.le_trans (List.length_take_le _ _) zQ;have HX:=yH hx;clear hcell hx hO;generalize l[k]=x at *;generalize l.take k=out at *;have bw:=(Below.refl wr.heap.size wr).alloc yL (.cells #[.int .u64 x.se,.int .u8 x.ow,.int .u8 x.sl,.int .u8 x.bu,.int .i64 x.lf,.int .i64 x.nu,.int .i64 x.de] 75);have K0:=yH (Blk.new wr #[.int .u64 x.se,.int .u8 x.ow,.int .u8 x.sl,.int .u8 x.bu,.int .i64 x.lf,.int .i64 x.nu,.int .i64 x.de] 75);have HP0:=yH (hP.below bw);have HNF:=yH (show ¬Foot w.heap.size vl wr.heap.size from fun h=>by have:=(hP.lt h).2;omega);have HBW:=yH (hb.trans (bw.mono hb.size));have CM:=yH (pmay_any x (wr.alloc (.cells #[.int .u64 x.se,.int .u8 x.ow,.int .u8 x.sl,.int .u8 x.bu,.int .i64 x.lf,.int .i64 x.nu,.int .i64 x.de] 75)) HX.o);clear bw hP hb
  by_cases hm:x.may
  ·rw[decide_eq_true hm]at CM
   by_cases hs:x.se≤last
   ·have HBad:=yH (BD.o (.inr hs));clear BD NX hm TK;go_wp2_with fail;refine CM.o.mono ?_;rintro e w3 ⟨rfl,b3⟩;have K3:=K0.o.below b3 K0.o.lt;have d0:=K3.cell 0;simp at d0;have HB3:=yT HBW b3;clear b3 K3 CM;go_wp2_with fail;refine bodyPost_ret (v:=.tuple #[.pointer none,.int .i64 1]) yK rfl ?_;exact⟨HB3.o,.inr (.inr ⟨rfl,h32,HBad.o⟩)⟩
   have hs':last<x.se:=zQ
   have HN:=yH (NX.o hm hs');clear BD NX hm hs;go_wp2_with fail;refine CM.o.mono ?_;rintro e w3 ⟨rfl,b3⟩;have HA4:=yB K0 b3;have HG4':=HP0.o.below b3;have HB3:=yT HBW b3;clear b3 CM HP0 HBW K0;obtain⟨ao,cap,hvl,hc1,hc2,_⟩:=aAh HG4'.row;subst hvl;have HG4:=yH HG4';clear HG4';unfold maxLen at hc2;have d0:=HA4.o.cell 0;simp at d0;go_wp2_with fail;clear d0;have hgl:=HG4.o.blk.lt;have d0:=HG4.o.blk.cell 0;simp at d0;have a0:=HA4.o.cell 0;have a1:=HA4.o.cell 1;have a2:=HA4.o.cell 2;have a3:=HA4.o.cell 3;have a4:=HA4.o.cell 4;have a5:=HA4.o.cell 5;have a6:=HA4.o.cell 6;simp at a0 a1 a2 a3 a4 a5 a6
   go_region_law (refine aHc rfl (.tmp 35) (.tmp 37) 156 rfl w.heap.size 197 Tryz.underlying156 rfl aJn (.slice ao out.length cap) out rfl (aAg HG4.o.row (yZ.drew.alloc yL _)) w3.heap.size 1 x rfl (Blk.new w3.drew _ _) zQ zU ?_;intro v' w' ho hgr hat;have HAP:=yH (appended HG4.o ho hgr hat);have hB:=HAP.o.1;have d1:=hB.cell 0;have f1:=hB.frozen 0;have l1:=hB.lt;simp at d1;obtain⟨ao',cap',hv',_⟩:=aAh ho;obtain⟨ln,hln⟩:∃ln,(out++[x]).length=ln:=⟨_,rfl⟩;rw[hln]at hv';subst hv';clear hln;clear ho hgr hat hB d0)
   all_goals
    have HE:=yH HAP.o.2;clear HAP d1 f1 l1;have e3:=HE.o.2.2 HA4.o HNF.o;have e4:=e3.cell 0;simp at e4;clear e3;go_wp2_with fail;go_roundw
    case rel=>exact⟨k+1,x.se,_,zQ,by go_num,by first|rfl|go_num,HN.o,by rw[TK.o];exact HE.o.1,HB3.o.trans (HE.o.2.1.1.below HB3.o.size (fun j hj hf=>by have:=(HG4.o.lt hf).1;omega))⟩
    case measure=>simp[intOf];omega
  rw[decide_eq_false hm]at CM;have HBad:=yH (BD.o (.inl hm));clear BD NX hm TK;go_wp2_with fail;refine CM.o.mono ?_;rintro e w3 ⟨rfl,b3⟩;have HB3:=yT HBW b3;clear b3 CM;go_wp2_with fail;refine bodyPost_ret (v:=.tuple #[.pointer none,.int .i64 1]) yK rfl ?_;exact⟨HB3.o,.inr (.inr ⟨rfl,h32,HBad.o⟩)⟩
 have hke:l.take k=l:=List.take_of_length_le zQ;rw[hke]at hO hP
 by_cases hs:nx≤last
 ·have HBad:=yH (hO.late h0 hs);have HB:=yH hb;clear hO hP hb hke;go_wp2_with fail;refine bodyPost_ret (v:=.tuple #[.pointer none,.int .i64 1]) yK rfl ?_;exact⟨HB.o,.inr (.inr ⟨rfl,h32,HBad.o⟩)⟩
 have HG:=yH (hO.good (nx:=nx) zQ);have HB:=yH hb;have HP:=yH hP;clear hO hP hb hke;go_wp2_with fail;refine bodyPost_ret (v:=.tuple #[.pointer (some ⟨w.heap.size,0,none⟩),.int .i64 0]) yK rfl ?_;exact⟨HB.o,.inl ⟨h32,HG.o.1,HG.o.2,w.heap.size,vl,rfl,HP.o⟩⟩
theorem cmade_of{w:World}{a b:Option Addr}{er:Int}(h:∀w',Below w.heap.size w w'→Calls Tryz.prog 235 #[.agg #[.pointer a,.pointer b],.int .u64 0,.int .u8 0,.int .u8 0,.int .i64 0] w' fun e w''=>e=.returned (.tuple #[aId,.int .i64 er])∧Below w'.heap.size w' w''):
  Calls Tryz.prog 240 #[.agg #[.pointer a,.pointer b]] w (yR w (.bool (er != 2))):=by
 have b0:=(Below.refl w.heap.size w).alloc yL (.cells #[.pointer a,.pointer b] 80);have K:=yH (Blk.new w #[.pointer a,.pointer b] 80);have B:=yH b0;have C:=yH (h _ b0);clear b0 h;obtain⟨q,hq⟩:∃q,(er != 2)=q:=⟨_,rfl⟩;rw[hq];unfold aId at C;generalize hW:w.alloc (.cells #[.pointer a,.pointer b] 80)=W at *;have HW:=yH hW;clear hW;have c0:=K.o.cell 0;have c1:=K.o.cell 1;simp at c0 c1;clear K;go_enter Tryz.func240,Tryz.ntmps240
 go_upto_region 1 with fail
 rw[HW.o];go_wp2_with fail;refine C.o.mono ?_;rintro e w1 ⟨rfl,b1⟩;have B1:=yH ((B.o.trans (b1.mono B.o.size)).alloc (Nat.le_trans B.o.size b1.size) (.cells #[.int .u64 0,.int .u8 0,.int .u8 0,.int .i64 0,.int .i64 0] 241));clear b1 c0 c1 C B;go_wp2_with fail;go_ret;exact⟨rfl,B1.o⟩
theorem cmade_any(HD:aD4){w:World}{base G M gb:Nat}{ps:List Int}{ls:List Ln}{l:List Of}{N:Int}{vb:Value}(hL:LedM w G M ps ls)(hI:LInv ps ls)(hP:PB w base gb l N vb)(hJ:BInv l N):
  Calls Tryz.prog 240 #[.agg #[.pointer (some ⟨G,0,none⟩),.pointer (some ⟨gb,0,none⟩)]] w (yR w (.bool true)):=
 cmade_of (er:=1) (fun w' b=>(aJ4 HD (hL.below b) hI (hP.below b) hJ 0 0 0 0 zQ wX wX yN).mono (by
  rintro e w'' (⟨_,h1,h2⟩|⟨h,_⟩)
  ·exact⟨h1,h2⟩
  exact absurd h.1 zQ))
theorem may_one(x:Of):(okO 2 [(⟨1,x.ow,x.sl,x.bu,x.lf,x.nu,x.de⟩:Of)]∧(2:Int)≠0)↔x.may:=by
 constructor
 ·rintro⟨⟨_,h⟩,_⟩;exact(h _ List.mem_cons_self).1
 intro h;refine⟨⟨List.pairwise_singleton _ _,fun y hy=>?_⟩,zX⟩;rw[List.mem_singleton]at hy;subst hy;exact⟨h,by show(1:Int)≠0;decide,by show(1:Int)<2;decide⟩
theorem cmay_any(x:Of)(hx:x.Fits)(w:World):Calls Tryz.prog 241 #[.agg #[.int .u64 x.se,.int .u8 x.ow,.int .u8 x.sl,.int .u8 x.bu,.int .i64 x.lf,.int .i64 x.nu,.int .i64 x.de]] w (yR w (.bool (decide x.may))):=by
 have b0:=(Below.refl w.heap.size w).alloc yL (.cells #[.int .u64 x.se,.int .u8 x.ow,.int .u8 x.sl,.int .u8 x.bu,.int .i64 x.lf,.int .i64 x.nu,.int .i64 x.de] 294);have K:=yH (Blk.new w #[.int .u64 x.se,.int .u8 x.ow,.int .u8 x.sl,.int .u8 x.bu,.int .i64 x.lf,.int .i64 x.nu,.int .i64 x.de] 294);have B:=yH b0;have HX:=yH hx;obtain⟨q,hq⟩:∃q,decide x.may=q:=⟨_,rfl⟩;have HQ:=yH hq;rw[hq];clear b0 hx hq;generalize hW:w.alloc (.cells #[.int .u64 x.se,.int .u8 x.ow,.int .u8 x.sl,.int .u8 x.bu,.int .i64 x.lf,.int .i64 x.nu,.int .i64 x.de] 294)=W at *;have HW:=yH hW;clear hW;have fz:=K.o.frozen 0;have z0:=K.o.cell 0;simp at z0;have K2:=yH (K.o.set 0 (.int .u64 1));go_enter Tryz.func241,Tryz.ntmps241
 go_upto_region 1 with fail
 rw[HW.o]
 go_upto_region 2 with fail
 have B2:=yH (B.o.setCell (p:=⟨w.heap.size,0,none⟩) (by show w.heap.size≤w.heap.size;omega) (.int .u64 1));clear fz z0 K B;generalize W.setCell ⟨w.heap.size,0,none⟩ (.int .u64 1)=W2 at *;have c0:=K2.o.cell 0;have c1:=K2.o.cell 1;have c2:=K2.o.cell 2;have c3:=K2.o.cell 3;have c4:=K2.o.cell 4;have c5:=K2.o.cell 5;have c6:=K2.o.cell 6;simp at c0 c1 c2 c3 c4 c5 c6;have bl:=(Below.refl W2.heap.size W2).alloc yL (.cells #[.int .u64 1,.int .u8 x.ow,.int .u8 x.sl,.int .u8 x.bu,.int .i64 x.lf,.int .i64 x.nu,.int .i64 x.de] 75);have KL:=yH (Blk.new W2 #[.int .u64 1,.int .u8 x.ow,.int .u8 x.sl,.int .u8 x.bu,.int .i64 x.lf,.int .i64 x.nu,.int .i64 x.de] 75);have B3:=yT B2 bl
 have RD:Hid (aB4 (W2.alloc (.cells #[.int .u64 1,.int .u8 x.ow,.int .u8 x.sl,.int .u8 x.bu,.int .i64 x.lf,.int .i64 x.nu,.int .i64 x.de] 75)) (.slice (some ⟨W2.heap.size,0,none⟩) 1 1) 7 [(⟨1,x.ow,x.sl,x.bu,x.lf,x.nu,x.de⟩:Of)].length (aAb [(⟨1,x.ow,x.sl,x.bu,x.lf,x.nu,x.de⟩:Of)])):=yH (by
  refine⟨_,1,rfl,by show(1:Nat)≤100000000;decide,rfl,fun _=>⟨W2.heap.size,0,rfl,KL.o.lt,fun j hj=>?_⟩⟩;rw[Nat.zero_add,KL.o.cell j];have hj7:j<7:=hj;rcases(by omega:j=0∨j=1∨j=2∨j=3∨j=4∨j=5∨j=6)with rfl|rfl|rfl|rfl|rfl|rfl|rfl <;> rfl)
 have CO:=yH (pofB_any (nx:=2) RD.o (fun y hy=>by rw[List.mem_singleton]at hy;subst hy;exact⟨by show(0:Int)≤1∧(1:Int)≤18446744073709551615;decide,HX.o.ow,HX.o.sl,HX.o.bu,HX.o.lf,HX.o.nu,HX.o.de⟩) zX zX);have QY:Hid ((okO 2 [(⟨1,x.ow,x.sl,x.bu,x.lf,x.nu,x.de⟩:Of)]∧(2:Int)≠0)↔x.may):=yH (may_one x);clear bl RD;go_wp2_with fail;generalize W2.alloc (.cells #[.int .u64 1,.int .u8 x.ow,.int .u8 x.sl,.int .u8 x.bu,.int .i64 x.lf,.int .i64 x.nu,.int .i64 x.de] 75)=W3 at *;refine CO.o.mono ?_;rintro e w1 ⟨b1,hp⟩;have B4:=yT B3 b1;clear b1 c0 c1 c2 c3 c4 c5 c6 CO KL K2 B2;rcases hp with⟨_,h1,h2,g,vl,rfl,_⟩|⟨rfl,h⟩|⟨rfl,_,h⟩
 ·obtain rfl:true=q:=by rw[←HQ.o,decide_eq_true (QY.o.1 ⟨h1,h2⟩)]
  clear h1 h2;go_wp2_with fail;go_ret;exact⟨rfl,B4.o⟩
 ·exact absurd h (by show ¬32<1;decide)
 obtain rfl:false=q:=by rw[←HQ.o,decide_eq_false (fun q=>h (QY.o.2 q))]
 clear h;go_wp2_with fail;go_ret;exact⟨rfl,B4.o⟩
def aIf(ps:List Int)(x:Of):Int:=if ¬x.may then 1 else if x.ow∉ps then 7 else 0
theorem aUe{w:World}{a b:Option Addr}(x:Of)(h:∀w',Below w.heap.size w w'→Calls Tryz.prog 240 #[.agg #[.pointer a,.pointer b]] w' fun e w''=>e=.returned (.bool false)∧Below w'.heap.size w' w''):
  Calls Tryz.prog 200 #[.agg #[.int .u64 x.se,.int .u8 x.ow,.int .u8 x.sl,.int .u8 x.bu,.int .i64 x.lf,.int .i64 x.nu,.int .i64 x.de],.agg #[.pointer a,.pointer b]] w (yR w (.int .i64 2)):=by
 have b0:=((Below.refl w.heap.size w).alloc yL (.cells #[.int .u64 x.se,.int .u8 x.ow,.int .u8 x.sl,.int .u8 x.bu,.int .i64 x.lf,.int .i64 x.nu,.int .i64 x.de] 294));have b1:=b0.alloc b0.size (.cells #[.pointer a,.pointer b] 80);have K:=yH (pAB (w.alloc (.cells #[.int .u64 x.se,.int .u8 x.ow,.int .u8 x.sl,.int .u8 x.bu,.int .i64 x.lf,.int .i64 x.nu,.int .i64 x.de] 294)) #[.pointer a,.pointer b] 80 (g:=w.heap.size+1) zV);have B:=yH b1;have C:=yH (h _ b1);clear b0 b1 h;generalize hW:(w.alloc (.cells #[.int .u64 x.se,.int .u8 x.ow,.int .u8 x.sl,.int .u8 x.bu,.int .i64 x.lf,.int .i64 x.nu,.int .i64 x.de] 294)).alloc (.cells #[.pointer a,.pointer b] 80)=W at *;have HW:=yH hW;clear hW;have c0:=K.o.cell 0;have c1:=K.o.cell 1;simp at c0 c1;clear K;go_enter Tryz.func200,Tryz.ntmps200
 go_upto_region 1 with fail
 rw[HW.o];go_wp2_with fail;refine C.o.mono ?_;rintro e w1 ⟨rfl,b1⟩;have B1:=yT B b1;clear b1 c0 c1 C B;go_wp2_with fail;go_ret;exact⟨rfl,B1.o⟩
theorem cwrong_any(HD:aD4){w:World}{base G M gb:Nat}{ps:List Int}{ls:List Ln}{l:List Of}{N:Int}{vb:Value}(hL:LedM w G M ps ls)(hI:LInv ps ls)(hP:PB w base gb l N vb)(hJ:BInv l N)(x:Of)(hx:x.Fits):
  Calls Tryz.prog 200 #[.agg #[.int .u64 x.se,.int .u8 x.ow,.int .u8 x.sl,.int .u8 x.bu,.int .i64 x.lf,.int .i64 x.nu,.int .i64 x.de],.agg #[.pointer (some ⟨G,0,none⟩),.pointer (some ⟨gb,0,none⟩)]] w (yR w (.int .i64 (aIf ps x))):=by
 have b0:=((Below.refl w.heap.size w).alloc yL (.cells #[.int .u64 x.se,.int .u8 x.ow,.int .u8 x.sl,.int .u8 x.bu,.int .i64 x.lf,.int .i64 x.nu,.int .i64 x.de] 294));have b1:=b0.alloc b0.size (.cells #[.pointer (some ⟨G,0,none⟩),.pointer (some ⟨gb,0,none⟩)] 80);have KS:=yH ((Blk.new w #[.int .u64 x.se,.int .u8 x.ow,.int .u8 x.sl,.int .u8 x.bu,.int .i64 x.lf,.int .i64 x.nu,.int .i64 x.de] 294).alloc (.cells #[.pointer (some ⟨G,0,none⟩),.pointer (some ⟨gb,0,none⟩)] 80));have KH:=yH (pAB (w.alloc (.cells #[.int .u64 x.se,.int .u8 x.ow,.int .u8 x.sl,.int .u8 x.bu,.int .i64 x.lf,.int .i64 x.nu,.int .i64 x.de] 294)) #[.pointer (some ⟨G,0,none⟩),.pointer (some ⟨gb,0,none⟩)] 80 (g:=w.heap.size+1) zV);have HL:=yH (hL.below b1);have C:=yH (cmade_any HD (hL.below b1) hI (hP.below b1) hJ);have B:=yH b1;have HB:=yH hI.bd;have CM:=yH (fun w=>cmay_any x hx w);obtain⟨R,hR⟩:∃R,aIf ps x=R:=⟨_,rfl⟩;rw[hR];have HR:=yH hR;clear b0 b1 hL hI hP hJ hR hx;generalize hW:(w.alloc (.cells #[.int .u64 x.se,.int .u8 x.ow,.int .u8 x.sl,.int .u8 x.bu,.int .i64 x.lf,.int .i64 x.nu,.int .i64 x.de] 294)).alloc (.cells #[.pointer (some ⟨G,0,none⟩),.pointer (some ⟨gb,0,none⟩)] 80)=W at *;have HW:=yH hW;clear hW;have c0:=KH.o.cell 0;have c1:=KH.o.cell 1;simp at c0 c1;go_enter Tryz.func200,Tryz.ntmps200
 go_upto_region 1 with fail
 rw[HW.o];go_wp2_with fail;refine C.o.mono ?_;rintro e w1 ⟨rfl,b1⟩;have HL1:=yH (HL.o.below b1);have KS1:=yB KS b1;have KH1:=yB KH b1;have B1:=yT B b1;clear b1 c0 c1 C B HL KS KH;have s0:=KS1.o.cell 0;have s1:=KS1.o.cell 1;have s2:=KS1.o.cell 2;have s3:=KS1.o.cell 3;have s4:=KS1.o.cell 4;have s5:=KS1.o.cell 5;have s6:=KS1.o.cell 6;simp at s0 s1 s2 s3 s4 s5 s6
 by_cases hm:x.may
 ·rw[decide_eq_true hm]at CM;have HMY:=yH hm;clear hm;go_wp2_with fail;refine(CM.o _).mono ?_;rintro e w2 ⟨rfl,b2⟩;have HL2:=yH (HL1.o.below b2);have KS2:=yB KS1 b2;have KH2:=yB KH1 b2;have B2:=yT B1 b2;clear b2 s0 s1 s2 s3 s4 s5 s6 CM B1 HL1 KS1 KH1;have s1:=KS2.o.cell 1;have c0:=KH2.o.cell 0;have c1:=KH2.o.cell 1;simp at s1 c0 c1;have CF:=yH (aF7 HL2.o.blk HB.o x.ow)
  by_cases hf:x.ow∈ps
  ·rw[decide_eq_true hf]at CF;have EE:Hid (R=0):=yH (by rw[←HR.o];unfold aIf;rw[if_neg (fun h=>h HMY.o),if_neg (fun h=>h hf)]);clear hf;go_wp2_with fail;refine CF.o.mono ?_;rintro e w3 ⟨rfl,rfl⟩;go_wp2_with fail;go_ret;exact⟨wE,B2.o⟩
  rw[decide_eq_false hf]at CF;have EE:Hid (R=7):=yH (by rw[←HR.o];unfold aIf;rw[if_neg (fun h=>h HMY.o),if_pos hf]);clear hf;go_wp2_with fail;refine CF.o.mono ?_;rintro e w3 ⟨rfl,rfl⟩;go_wp2_with fail;go_ret;exact⟨wE,B2.o⟩
 rw[decide_eq_false hm]at CM;have EE:Hid (R=1):=yH (by rw[←HR.o];unfold aIf;rw[if_pos hm]);clear hm;go_wp2_with fail;refine(CM.o _).mono ?_;rintro e w2 ⟨rfl,b2⟩;have B2:=yT B1 b2;clear b2 s0 s1 s2 s3 s4 s5 s6 CM B1;go_wp2_with fail;go_ret;exact⟨wE,B2.o⟩
theorem crest_none(x:Of)(hn:x.lf<1)(b:Option Addr)(w:World):
  Calls Tryz.prog 202 #[.agg #[.int .u64 x.se,.int .u8 x.ow,.int .u8 x.sl,.int .u8 x.bu,.int .i64 x.lf,.int .i64 x.nu,.int .i64 x.de],.pointer b] w (yR w (.tuple #[.int .u64 0,.int .i64 0])):=by
 have b0:=((Below.refl w.heap.size w).alloc yL (.cells #[.int .u64 x.se,.int .u8 x.ow,.int .u8 x.sl,.int .u8 x.bu,.int .i64 x.lf,.int .i64 x.nu,.int .i64 x.de] 294));have KS:=yH (Blk.new w #[.int .u64 x.se,.int .u8 x.ow,.int .u8 x.sl,.int .u8 x.bu,.int .i64 x.lf,.int .i64 x.nu,.int .i64 x.de] 294);have B:=yH b0;have q0:decide (x.lf<1)=true:=v6 hn
 clear b0 hn;generalize hW:w.alloc (.cells #[.int .u64 x.se,.int .u8 x.ow,.int .u8 x.sl,.int .u8 x.bu,.int .i64 x.lf,.int .i64 x.nu,.int .i64 x.de] 294)=W at *;have HW:=yH hW;clear hW;have s4:=KS.o.cell 4;simp at s4;go_enter Tryz.func202,Tryz.ntmps202
 go_upto_region 1 with fail
 rw[HW.o];go_wp2_with fail;go_ret2;exact⟨rfl,B.o⟩
theorem crest_any{w:World}{base g:Nat}{l:List Of}{N:Int}{vl:Value}(h:PB w base g l N vl)(hI:BInv l N)(x:Of)(hx:x.Fits)(hn:¬x.lf<1):
  Calls Tryz.prog 202 #[.agg #[.int .u64 x.se,.int .u8 x.ow,.int .u8 x.sl,.int .u8 x.bu,.int .i64 x.lf,.int .i64 x.nu,.int .i64 x.de],.pointer (some ⟨g,0,none⟩)] w fun e w'=>e=.returned (.tuple #[.int .u64 (aFw l ⟨N,x.ow,x.sl,x.bu,x.lf,x.nu,x.de⟩),.int .i64 (aC6 l ⟨N,x.ow,x.sl,x.bu,x.lf,x.nu,x.de⟩)])∧
   ∃vl',PB w' base g (aFi l ⟨N,x.ow,x.sl,x.bu,x.lf,x.nu,x.de⟩) (aE5 l ⟨N,x.ow,x.sl,x.bu,x.lf,x.nu,x.de⟩) vl'∧Keep (Foot g vl) w w'∧aEj w vl vl':=by
 have b0:=((Below.refl w.heap.size w).alloc yL (.cells #[.int .u64 x.se,.int .u8 x.ow,.int .u8 x.sl,.int .u8 x.bu,.int .i64 x.lf,.int .i64 x.nu,.int .i64 x.de] 294));have KS:=yH (Blk.new w #[.int .u64 x.se,.int .u8 x.ow,.int .u8 x.sl,.int .u8 x.bu,.int .i64 x.lf,.int .i64 x.nu,.int .i64 x.de] 294);have B:=yH b0;have q0:decide (x.lf<1)=false:=v6 hn
 have CP:=yH (pplace_any (x:=⟨N,x.ow,x.sl,x.bu,x.lf,x.nu,x.de⟩) (h.below b0) hI ⟨⟨by have:=hI.n1;show 0≤N;omega,hI.n2⟩,hx.ow,hx.sl,hx.bu,hx.lf,hx.nu,hx.de⟩);obtain⟨rs,hrs⟩:∃rs,aFw l ⟨N,x.ow,x.sl,x.bu,x.lf,x.nu,x.de⟩=rs:=⟨_,rfl⟩;obtain⟨re,hre⟩:∃re,aC6 l ⟨N,x.ow,x.sl,x.bu,x.lf,x.nu,x.de⟩=re:=⟨_,rfl⟩;rw[hrs,hre]at CP ⊢;dsimp only at CP;clear b0 hn h hI hx hrs hre;generalize hW:w.alloc (.cells #[.int .u64 x.se,.int .u8 x.ow,.int .u8 x.sl,.int .u8 x.bu,.int .i64 x.lf,.int .i64 x.nu,.int .i64 x.de] 294)=W at *;have HW:=yH hW;clear hW;have s1:=KS.o.cell 1;have s2:=KS.o.cell 2;have s3:=KS.o.cell 3;have s4:=KS.o.cell 4;have s5:=KS.o.cell 5;have s6:=KS.o.cell 6;simp at s1 s2 s3 s4 s5 s6;go_enter Tryz.func202,Tryz.ntmps202
 go_upto_region 1 with fail
 rw[HW.o];go_wp2_with fail;refine CP.o.mono ?_;rintro e w1 ⟨rfl,vl',hP,k1,hm⟩;have HP:=yH hP;have K1:=yH ((pAD (S:=Foot g vl) B.o).trans k1);have M1:=yH (show aEj w vl vl' from fun b hb=>(hm b hb).imp id (fun h=>Nat.le_trans B.o.size h));clear hP k1 hm CP s1 s2 s3 s4 s5 s6;go_wp2_with fail;go_ret2;exact⟨rfl,vl',HP.o,K1.o,M1.o⟩
structure aP6(B l:Nat)(W W':World):Prop where
 size:W.heap.size≤W'.heap.size
 same:∀k,B≤k→k≠l→k<W.heap.size→W'.heap[k]? = W.heap[k]?
structure aLd(B:Nat)(W W':World):Prop where
 size:W.heap.size≤W'.heap.size
 same:∀k,B≤k→k<W.heap.size→W'.heap[k]? = W.heap[k]?
theorem pAN{S:Nat→Prop}{B:Nat}{W W':World}(h:Keep S W W')(hS:∀k,B≤k→¬S k):aLd B W W':=
 ⟨h.size,fun k hB hk=>h.block k hk (hS k hB)⟩
theorem Blk.old{W W':World}{B l g:Nat}{cs:Array Value}{t:TypeId}(h:Blk W g cs t)(k:aP6 B l W W')(hB:B≤g)(hl:g≠l):Blk W' g cs t:=(k.same g hB hl h.lt).trans h
def SeqK(P:Program)(gf:FuncId)(lb:Array Value){St:Type}(s0:St)(S:St→Prop)(Y:St→Array Value→World→Prop)(next:St→St→Prop)(I:St→World→Prop):Prop:=
 ∀(n l B:Nat) (J:St→World→Prop) (Jx:World→Prop),(∀s W W',J s W→Below W.heap.size W W'→J s W')→(∀s W,J s W→I s W)→
  (∀m s vs W,J s W→Y s vs W→YieldAt Fence.wide m P l vs W fun e W'=>aP6 B l W W'∧((e=.returned (.bool true)∧∃s',next s s'∧J s' W')∨(e=.returned (.bool false)∧Jx W')))→
  ∀W,J s0 W→B≤W.heap.size→l<W.heap.size→CallsIn Fence.wide n P gf (#[.func (.yield l) #[] #[]]++lb) W fun e W'=>(∃v,e=.returned v)∧((∃s,S s∧J s W')∨Jx W')
def aR7{St:Type}(B:Nat)(I:St→World→Prop)(Ix:Code→World→Prop)(next:St→St→Prop)(s:St)(W:World):Exit→Act→World→Prop
 | .normal,_,W'=>aLd B W W'∧∃s',next s s'∧I s' W'
 | .ret,_,W'=>aLd B W W'∧Ix .ret W'
 | .exit id,_,W'=>aLd B W W'∧Ix (.exit id) W'
 | .goto t,_,W'=>aLd B W W'∧Ix (.goto t) W'
 | .panic _,_,_=>False
 | .outgrown,_,_=>False
theorem wp_roundsK{P:Program}{g:Operand}{ps:Array Tmp}{assign body:Code}{Q:Exit→Act→World→Prop}{a:Act}{w:World}{St:Type}{gf:FuncId}{lb:Array Value}
  (hg:a.eval g=.func (.func gf) #[] lb)(eg:∀args w,(callFunc gf args).run P w=.ok (.enter gf args) w)
  (I:St→World→Prop)(Y:St→Array Value→World→Prop)(Ix:Code→World→Prop)(S:St→Prop)(next:St→St→Prop)(A:St→Array Value→Act→World→Prop)
  (hI:∀s,Fits w.heap.size (I s))(hIx:∀c,Fits w.heap.size (Ix c))(hA:∀s vs a,Fits w.heap.size (A s vs a))(hps:∀s vs W,Y s vs W→vs.size=ps.size)
  (s0:St)(hseq:SeqK P gf lb s0 S Y next I)(h0:I s0 w)
  (hassign:∀(m l:Nat) (s:St) (vs:Array Value) (W:World) (K:Act→World→Prop),I s W→Y s vs W→(∀a' W',Below W.heap.size W W'→A s vs a' W'→K a' W')→
   assign.wpIn (Fence.wide.inRound l) m P (Exit.then K fun _ _ _=>False) { tmps:=(ps.zip vs).foldl (fun t (p,v)=>t.setIfInBounds p v) a.tmps,defers:=[] } W)
  (hbody:∀(m l:Nat) (s:St) (vs:Array Value) (a':Act) (W:World),w.heap.size≤W.heap.size→I s W→A s vs a' W→body.wpIn (Fence.wide.inRound l) m P (aR7 w.heap.size I Ix next s W) a' W)
  (hdone:∀(D:Nat) (s:St) (W:World),w.heap.size≤D→S s→I s W→W.heap[D]? = some (.deferred (some []))→Q .normal { a with defers:={ target:=.collected D,args:=#[] }::a.defers } W)
  (hstop:∀(D:Nat) (c:Code) (W:World),w.heap.size≤D→Ix c W→W.heap[D]? = some (.deferred (some []))→c.wp P Q { a with defers:={ target:=.collected D,args:=#[] }::a.defers } W):
  (Code.rangeFunc g ps assign body).wp P Q a w:=by
 refine(wpIn_wide (n:=0)).1 (wpIn_rangeFunc fun fn hfn=>?_);obtain⟨rec,hrec⟩:∃rec:LoopState→Option Code→Loop,rec=fun st pe=>{ state:=st,pending:=pe,fn,tmps:=a.tmps,params:=ps,assign,body,defers:=w.heap.size }:=⟨_,rfl⟩
 obtain⟨W1,hW1⟩:∃W1,(w.alloc (.deferred (some []))).alloc (.loop (rec .ready none))=W1:=⟨_,rfl⟩
 have hl1:W1.heap[w.heap.size+1]? = some (.loop (rec .ready none)):=by
  have e:=World.alloc_heap_new (w.alloc (.deferred (some []))) (.loop (rec .ready none));rw[World.size_alloc,hW1]at e;exact e
 have hd1:W1.heap[w.heap.size]? = some (.deferred (some [])):=by
  rw[←hW1];exact(Below.heap_alloc _ _ _ zV).trans (World.alloc_heap_new w _)
 have hb1:Below w.heap.size w W1:=by
  rw[←hW1];exact((Below.refl _ w).alloc yL _).alloc zV _
 have hI1:I s0 W1:=(hI s0).grow _ _ h0 hb1
 refine⟨w.heap.size+1,[{ target:=.collected w.heap.size,args:=#[] }],W1,{ target:=.fn (.func gf) lb,args:=#[.func (.yield (w.heap.size+1)) #[] #[]] },W1,gf,
  #[.func (.yield (w.heap.size+1)) #[] #[]]++lb,W1,?_,?_,fun _ _=>trivial,?_,fun hh=>xB,?_⟩
 ·rw[←hW1,hrec];exact run_enterLoop_outer _ _ _ _ _
 ·simp only[resolve,hg];simp[go_sem]
 ·simp[invoke,go_sem,eg]
 refine(hseq (0 - 1) (w.heap.size+1) w.heap.size (fun s W=>I s W∧W.heap[w.heap.size+1]? = some (.loop (rec .ready none))∧W.heap[w.heap.size]? = some (.deferred (some [])))
  (fun W=>∃c,Ix c W∧W.heap[w.heap.size+1]? = some (.loop (rec .done (some c)))∧W.heap[w.heap.size]? = some (.deferred (some [])))
  (fun s W W' h hb=>⟨(hI s).grow _ _ h.1 hb,(hb.block _ (Array.getElem?_eq_some_iff.1 h.2.1).1).trans h.2.1,(hb.block _ (Array.getElem?_eq_some_iff.1 h.2.2).1).trans h.2.2⟩)
  (fun s W h=>h.1) ?_ W1 ⟨hI1,hl1,hd1⟩ hb1.size (Array.getElem?_eq_some_iff.1 hl1).1).mono ?_
 ·rintro m s vs V ⟨hiV,hlV,hkV⟩ hy;have hry:=run_yield (P:=P) (args:=vs) hlV (by rw[hrec];exact hps s vs V hy);rw[hrec]at hry;refine⟨fn,_,assign,body,hry,roundIn_of_wpIn hfn (hassign m _ s vs V _ hiV hy (fun a1 W hb hAx=>?_))⟩;clear hry;have hi:=(hI s).grow _ _ hiV hb;have hl:=(hb.block _ (Array.getElem?_eq_some_iff.1 hlV).1).trans hlV;have hk:=(hb.block _ (Array.getElem?_eq_some_iff.1 hkV).1).trans hkV;have hlt:=(Array.getElem?_eq_some_iff.1 hl).1;refine⟨_,run_beginRound hl (by rw[hrec]),?_⟩;obtain⟨W2,hW2⟩:∃W2,W.putObj (w.heap.size+1) (.loop { rec .ready none with state:=.busy })=W2:=⟨_,rfl⟩;have hl2:W2.heap[w.heap.size+1]? = some (.loop { rec .ready none with state:=.busy }):=by rw[←hW2];exact World.putObj_heap_same hlt
  have hk2:W2.heap[w.heap.size]? = some (.deferred (some [])):=by rw[←hW2];exact(World.putObj_heap_other zQ).trans hk
  have hs2:W2.heap.size=W.heap.size:=by rw[←hW2];simp[World.putObj]
  have ho2:∀k,k≠w.heap.size+1→W2.heap[k]? = W.heap[k]? := fun k hk=>by rw[←hW2];exact World.putObj_heap_other zQ
  have hi2:I s W2:=by rw[←hW2];exact(hI s).turn _ _ _ _ hi zQ hl rfl
  have hA2:A s vs a1 W2:=by rw[←hW2];exact(hA s vs a1).turn _ _ _ _ hAx zQ hl rfl
  rw[hW2];refine wpIn_mono (hbody m _ s vs a1 W2 zQ hi2 hA2) ?_
  have fin:∀(jump:Option Code) (W3:World),aLd w.heap.size W2 W3→
    (Instr.endRound (w.heap.size+1) jump).run P W3=.ok (.bool jump.isNone) (W3.putObj (w.heap.size+1) (.loop (rec (if jump.isNone then .ready else .done) jump)))∧
    W3.heap[w.heap.size+1]? = some (.loop { rec .ready none with state:=.busy })∧
    (W3.putObj (w.heap.size+1) (.loop (rec (if jump.isNone then .ready else .done) jump))).heap[w.heap.size+1]? = some (.loop (rec (if jump.isNone then .ready else .done) jump))∧
    (W3.putObj (w.heap.size+1) (.loop (rec (if jump.isNone then .ready else .done) jump))).heap[w.heap.size]? = some (.deferred (some []))∧
    aP6 w.heap.size (w.heap.size+1) V (W3.putObj (w.heap.size+1) (.loop (rec (if jump.isNone then .ready else .done) jump))):=fun jump W3 hk3=>by
   have hl3:=(hk3.same (w.heap.size+1) zQ zQ).trans hl2;have he:=run_endRound (P:=P) jump hl3;rw[hrec]at he ⊢;refine⟨he,by rw[hrec]at hl3;exact hl3,World.putObj_heap_same (Array.getElem?_eq_some_iff.1 hl3).1,(World.putObj_heap_other zQ).trans ((hk3.same w.heap.size yL zQ).trans hk2),?_,fun k hB hkl hks=>?_⟩
   ·have h1:=hk3.size;have h2:=hb.size;simp[World.putObj];omega
   have h2:=hb.size;rw[World.putObj_heap_other zQ,hk3.same k hB zQ,ho2 k hkl];exact hb.block k hks
  rintro e a3 W3 hp
  cases e with
  | normal=>
   obtain⟨hk3,s',hn,hi3⟩:=hp;obtain⟨hr,hl3,hl4,hk4,hof⟩:=fin none W3 hk3;exact⟨_,_,hr,hof,.inl ⟨rfl,s',hn,(hI s').turn _ _ _ _ hi3 zQ hl3 rfl,hl4,hk4⟩⟩
  | ret=>
   obtain⟨hk3,hi3⟩:=hp;obtain⟨hr,hl3,hl4,hk4,hof⟩:=fin (some .ret) W3 hk3;exact⟨_,_,hr,hof,.inr ⟨rfl,.ret,(hIx _).turn _ _ _ _ hi3 zQ hl3 rfl,hl4,hk4⟩⟩
  | exit id=>
   obtain⟨hk3,hi3⟩:=hp;obtain⟨hr,hl3,hl4,hk4,hof⟩:=fin (some (.exit id)) W3 hk3;exact⟨_,_,hr,hof,.inr ⟨rfl,.exit id,(hIx _).turn _ _ _ _ hi3 zQ hl3 rfl,hl4,hk4⟩⟩
  | goto t=>
   obtain⟨hk3,hi3⟩:=hp;obtain⟨hr,hl3,hl4,hk4,hof⟩:=fin (some (.goto t)) W3 hk3;exact⟨_,_,hr,hof,.inr ⟨rfl,.goto t,(hIx _).turn _ _ _ _ hi3 zQ hl3 rfl,hl4,hk4⟩⟩
  | panic ch=>exact hp.elim
  | outgrown=>exact hp.elim
 rintro e W2 ⟨⟨v,rfl⟩,(⟨s,hS,hi,hl,hk⟩|⟨c,hi,hl,hk⟩)⟩
 ·have he:=run_endLoop (P:=P) hl v7;rw[hrec]at he;exact⟨none,_,he,hdone _ s _ yL hS ((hI s).turn _ _ _ _ hi zQ hl rfl) ((World.putObj_heap_other zQ).trans hk)⟩
 have he:=run_endLoop (P:=P) hl v7;rw[hrec]at he;exact⟨some c,_,he,wpIn_wide.2 (hstop _ c _ yL ((hIx c).turn _ _ _ _ hi zQ hl rfl) ((World.putObj_heap_other zQ).trans hk))⟩
end Go.Proofs.YtngnfdnfpiiclaaGreat
namespace Go.Proofs.YtngnfdnfpiiclaaGreat
open Go.RowKit Go.Shelf
def sortO_ren:Go.Shelf.Ren:=⟨fun|6=>295|15=>141|14=>313|28=>186|29=>187|20=>332|21=>333|22=>334|23=>335|24=>336|25=>337|26=>338|27=>339|46=>348|47=>219|48=>220|49=>349|50=>350|57=>354|n=>n,fun|22=>156|24=>197|25=>392|3=>3|39=>227|0=>0|53=>278|55=>44|4=>4|46=>271|45=>270|50=>275|5=>5|9=>9|66=>310|70=>313|76=>358|77=>359|n=>n,fun|n=>n⟩
theorem sortO:Go.Proofs.SlLaysF0.n6 Tryz.prog sortO_ren:={
 mixed:=zW
 f6:=⟨Tryz.f295.name,zX,Tryz.func295.trans (congrArg some zW)⟩
 f14:=⟨Tryz.f313.name,zX,Tryz.func313.trans (congrArg some zW)⟩
 f15:=Tryz.func141.trans (congrArg some zW)
 f20:=⟨Tryz.f332.name,zX,Tryz.func332.trans (congrArg some zW)⟩
 f21:=⟨Tryz.f333.name,zX,Tryz.func333.trans (congrArg some zW)⟩
 f22:=⟨Tryz.f334.name,zX,Tryz.func334.trans (congrArg some zW)⟩
 f23:=⟨Tryz.f335.name,zX,Tryz.func335.trans (congrArg some zW)⟩
 f24:=⟨Tryz.f336.name,zX,Tryz.func336.trans (congrArg some zW)⟩
 f25:=⟨Tryz.f337.name,zX,Tryz.func337.trans (congrArg some zW)⟩
 f26:=⟨Tryz.f338.name,zX,Tryz.func338.trans (congrArg some zW)⟩
 f27:=⟨Tryz.f339.name,zX,Tryz.func339.trans (congrArg some zW)⟩
 f28:=Tryz.func186.trans (congrArg some zW)
 f29:=Tryz.func187.trans (congrArg some zW)
 f46:=⟨Tryz.f348.name,zX,Tryz.func348.trans (congrArg some zW)⟩
 f47:=Tryz.func219.trans (congrArg some zW)
 f48:=Tryz.func220.trans (congrArg some zW)
 f49:=⟨Tryz.f349.name,zX,Tryz.func349.trans (congrArg some zW)⟩
 f50:=⟨Tryz.f350.name,zX,Tryz.func350.trans (congrArg some zW)⟩
 f57:=⟨Tryz.f354.name,zX,Tryz.func354.trans (congrArg some zW)⟩
 t0:=Tryz.underlying0
 a0:=Tryz.isAgg0
 z0:=Tryz.sizeOf0
 v0:=Tryz.zeroValue0
 t3:=Tryz.underlying3
 a3:=Tryz.isAgg3
 z3:=Tryz.sizeOf3
 v3:=Tryz.zeroValue3
 t4:=Tryz.underlying4
 a4:=Tryz.isAgg4
 z4:=Tryz.sizeOf4
 v4:=Tryz.zeroValue4
 t5:=Tryz.underlying5
 a5:=Tryz.isAgg5
 z5:=Tryz.sizeOf5
 v5:=Tryz.zeroValue5
 t9:=Tryz.underlying9
 a9:=Tryz.isAgg9
 z9:=Tryz.sizeOf9
 v9:=Tryz.zeroValue9
 t22:=Tryz.underlying156
 a22:=Tryz.isAgg156
 z22:=Tryz.sizeOf156
 v22:=Tryz.zeroValue156
 t25:=Tryz.underlying392
 a25:=Tryz.isAgg392
 z25:=Tryz.sizeOf392
 v25:=Tryz.zeroValue392
 t39:=Tryz.underlying227
 a39:=Tryz.isAgg227
 z39:=Tryz.sizeOf227
 v39:=Tryz.zeroValue227
 t45:=Tryz.underlying270
 a45:=Tryz.isAgg270
 z45:=Tryz.sizeOf270
 v45:=Tryz.zeroValue270
 t46:=Tryz.underlying271
 a46:=Tryz.isAgg271
 z46:=Tryz.sizeOf271
 v46:=Tryz.zeroValue271
 t50:=Tryz.underlying275
 a50:=Tryz.isAgg275
 z50:=Tryz.sizeOf275
 v50:=Tryz.zeroValue275
 t53:=Tryz.underlying278
 a53:=Tryz.isAgg278
 z53:=Tryz.sizeOf278
 v53:=Tryz.zeroValue278
 t55:=Tryz.underlying44
 a55:=Tryz.isAgg44
 z55:=Tryz.sizeOf44
 v55:=Tryz.zeroValue44
 t66:=Tryz.underlying310
 a66:=Tryz.isAgg310
 z66:=Tryz.sizeOf310
 v66:=Tryz.zeroValue310
 t70:=Tryz.underlying313
 a70:=Tryz.isAgg313
 z70:=Tryz.sizeOf313
 v70:=Tryz.zeroValue313
 t76:=Tryz.underlying358
 a76:=Tryz.isAgg358
 z76:=Tryz.sizeOf358
 v76:=Tryz.zeroValue358
 t77:=Tryz.underlying359
 a77:=Tryz.isAgg359
 z77:=Tryz.sizeOf359
 v77:=Tryz.zeroValue359 }
end Go.Proofs.YtngnfdnfpiiclaaGreat
namespace Go.Proofs.YtngnfdnfpiiclaaGreat
open Go.RowKit
structure aAr(B:Nat)(w w':World):Prop extends Below B w w' where
 dr:w.drawn≤w'.drawn
theorem aAr.refl(B:Nat)(w:World):aAr B w w:=⟨Below.refl B w,Nat.le_refl _⟩
theorem aAr.trans{B:Nat}{a b c:World}(h:aAr B a b)(k:aAr B b c):aAr B a c:=⟨h.toBelow.trans k.toBelow,Nat.le_trans h.dr k.dr⟩
theorem aAr.mono{B B':Nat}{w w':World}(h:aAr B w w')(hb:B'≤B):aAr B' w w':=⟨h.toBelow.mono hb,h.dr⟩
theorem aAr.alloc{B:Nat}{a w:World}(h:aAr B a w)(hb:B≤w.heap.size)(o:Obj):aAr B a (w.alloc o):=⟨h.toBelow.alloc hb o,h.dr⟩
theorem aAr.drew{B:Nat}{a w:World}(h:aAr B a w):aAr B a w.drew:=⟨h.toBelow.drew,Nat.le_trans h.dr (Nat.le_succ _)⟩
theorem aAr.setCell{B:Nat}{a w:World}(h:aAr B a w){p:Addr}(hp:B≤p.block)(u:Value):aAr B a (w.setCell p u):=⟨h.toBelow.setCell hp u,h.dr⟩
theorem aAr.grown{w w':World}(h:aAr w.heap.size w w'):∃q os',w'=Go.Sort.grow (w.drewN q) os':=by
 refine⟨w'.drawn - w.drawn,w'.heap.extract w.heap.size w'.heap.size,?_⟩;have hd:=h.dr
 have hh:w'.heap=w.heap++w'.heap.extract w.heap.size w'.heap.size:=by
  apply Array.ext_getElem?;intro i
  by_cases hi:i<w.heap.size
  ·rw[h.block i hi,Array.getElem?_append_left hi]
  rw[Array.getElem?_append_right zQ,Array.getElem?_extract]
  by_cases hi2:i<w'.heap.size
  ·rw[if_pos zU];congr 1;omega
  rw[if_neg zU,Array.getElem?_eq_none zQ]
 obtain⟨h0,h1,h2,h3,h4⟩:=w';obtain⟨g0,g1,g2,g3,g4⟩:=w;have e1:=h.os;have e2:=h.tape;have e3:=h.output;simp only at hh e1 e2 e3 hd;subst e1 e2 e3;simp only[Go.Sort.grow,World.drewN];rw[←hh];congr 1;omega
theorem aP7(a b:Int)(w:World)(ha:In64 a)(hb:In64 b)(h1:1≤a)(h2:1≤b):
  Calls Tryz.prog 258 #[.int .i64 a,.int .i64 b] w fun e w'=>e=.returned (.int .i64 (Int.gcd a b))∧aAr w.heap.size w w':=by
 have HB:=yH hb;clear ha hb;go_enter Tryz.func258,Tryz.ntmps258;go_wp2;refine wp_scope_jumps 0 (fun a' w'=>aAr w.heap.size w w'∧∃(x y:Int) (u2 u3 u4 u5 u6 u7 u8 u9 u10 u11:Value),a'={ tmps:=#[.int .i64 x,.int .i64 y,u2,u3,u4,u5,u6,u7,u8,u9,u10,u11],defers:=[] }∧1≤x∧0≤y∧x≤9223372036854775807∧y≤9223372036854775807∧Int.gcd x y=Int.gcd a b) (fun a' _=>(intOf (a'.tmps.getD 1 undef)).toNat) rfl ?_ ?_
 ·by_cases hb:b=0
  ·omega
  have hnb:(b==0)=false:=zU
  have HG:=yH (aPn a b);have HLT:=yH (Int.emod_lt_of_pos a (show 0<b by omega));have HGE:=yH (Int.emod_nonneg a hb);go_wp2
  go_step3
  go_wp2
  go_region
  all_goals
   go_wp2
   go_step3
   exact⟨rfl,(aAr.refl _ _).drew,b,_,_,_,_,_,_,_,_,_,_,_,rfl,h2,HGE.o,HB.o.2,uQ HLT.o HB.o.2,HG.o⟩
 rintro a' w' ⟨bel,x,y,u2,u3,u4,u5,u6,u7,u8,u9,u10,u11,rfl,hx,hy,hx2,hy2,hg⟩;have HG:=yH hg;clear hg
 by_cases hb:y=0
 ·subst hb;have e:((Int.gcd x 0:Nat):Int)=x:=uX Int.gcd_zero_right
  go_wp2;simp only[Exit.jump];go_ret;exact⟨by rw[←HG.o,e];rfl,bel⟩
 have hnb:(y==0)=false:=zU
 have HS:=yH (aPn x y);have HLT:=yH (Int.emod_lt_of_pos x (show 0<y by omega));have HGE:=yH (Int.emod_nonneg x hb);go_wp2
 go_region
 all_goals
  go_wp2
  go_step3
  refine⟨rfl,⟨bel.drew,y,_,_,_,_,_,_,_,_,_,_,_,rfl,zQ,HGE.o,hy2,vD,by rw[HS.o];exact HG.o⟩,?_⟩;have:=HLT.o;have:=HGE.o;simp[intOf];omega
theorem of_arg_d(n d:Int)(w:World)(h:n<1∨d<1):
  Calls Tryz.prog 223 #[.int .i64 n,.int .i64 d] w fun e w'=>e=.returned (ofV n d)∧aAr w.heap.size w w':=by
 rw[ofV_arg h];have hs:n<1∨(1≤n∧d<1):=zQ
 clear h;rcases hs with h1|⟨h1,h2⟩
 all_goals
  go_enter Tryz.func223,Tryz.ntmps223;go_wp2;refine bodyPost_ret (v:=.tuple #[.agg #[.int .i64 0,.int .i64 0],.int .i64 1]) (aAj rfl _ _ w.heap.size 73 #[.int .i64 0,.int .i64 0] _ _ rfl (Blk.new w #[.int .i64 0,.int .i64 0] 73).out Tryz.underlying73 rfl zW rfl) rfl ⟨rfl,?_⟩;exact((aAr.refl _ _).alloc yL _)
theorem of_two_d(n d g x y:Int)(w:World)(h1:1≤n)(h2:1≤d)(hn:In64 n)(hd:In64 d)(hg:(Int.gcd n d:Int)=g)(hx:n/g=x)(hy:d/g=y)(hx0:0≤x)(hy0:0≤y)(hxn:x≤n)(hyd:y≤d)(hg0:1≤g):
  Calls Tryz.prog 223 #[.int .i64 n,.int .i64 d] w fun e w'=>e=.returned (if 1099511627776<x∨1099511627776<y then .tuple #[.agg #[.int .i64 0,.int .i64 0],.int .i64 10]else .tuple #[.agg #[.int .i64 x,.int .i64 y],.int .i64 0])∧aAr w.heap.size w w':=by
 have c:=yH (fun w=>aP7 n d w hn hd h1 h2);rw[hg]at c;have e1:Int.tdiv n g=x:=wA
 have e2:Int.tdiv d g=y:=wB
 have ew1:wrap64 x=x:=aDk x ⟨zQ,uV hn.2⟩;have ew2:wrap64 y=y:=aDk y ⟨zQ,uV hd.2⟩;have q2:Blk (w.alloc (.cells #[.int .i64 0,.int .i64 0] 73)) w.heap.size #[.int .i64 0,.int .i64 0] 73:=Blk.new _ _ _;have b0:aAr w.heap.size w (w.alloc (.cells #[.int .i64 0,.int .i64 0] 73)):=(aAr.refl _ _).alloc yL _;have Q2:=yH q2;have B0:=yH b0;have hs:1099511627776<x∨(x≤1099511627776∧1099511627776<y)∨(x≤1099511627776∧y≤1099511627776):=zQ
 clear q2 b0 hn hd;rcases hs with o1|⟨o1,o2⟩|⟨o1,o2⟩
 ·rw[if_pos (.inl o1)];go_enter Tryz.func223,Tryz.ntmps223;go_wp2_with fail;refine(c.out _).mono ?_;rintro e w1 ⟨rfl,bw⟩;have k1:=Q2.o.below bw.toBelow Q2.o.lt;have B1:=yH (B0.o.trans (bw.mono zV));have d0:=k1.cell 0;have d1:=k1.cell 1;simp at d0 d1;have f1:=k1.frozen;have hz:=k1.lt;have K1:=yH k1;clear k1 bw;go_wp2
  go_region
  all_goals
   go_wp2;refine bodyPost_ret (v:=.tuple #[.agg #[.int .i64 0,.int .i64 0],.int .i64 10]) (aAj rfl _ _ w.heap.size 73 #[.int .i64 0,.int .i64 0] _ _ rfl (Blk.drew (((K1.o.set 0 (.int .i64 0)).set 1 (.int .i64 0)).alloc _)).out Tryz.underlying73 rfl zW rfl) rfl ⟨rfl,?_⟩
   first
   | exact((((B1.o.alloc B1.o.size _).drew).setCell yL _).setCell yL _)
   | exact((((B1.o.setCell yL _).setCell yL _).alloc zL _).drew)
 ·rw[if_pos (.inr o2)];go_enter Tryz.func223,Tryz.ntmps223;go_wp2_with fail;refine(c.out _).mono ?_;rintro e w1 ⟨rfl,bw⟩;have k1:=Q2.o.below bw.toBelow Q2.o.lt;have B1:=yH (B0.o.trans (bw.mono zV));have d0:=k1.cell 0;have d1:=k1.cell 1;simp at d0 d1;have f1:=k1.frozen;have hz:=k1.lt;have K1:=yH k1;clear k1 bw;go_wp2
  go_region
  all_goals
   go_wp2;refine bodyPost_ret (v:=.tuple #[.agg #[.int .i64 0,.int .i64 0],.int .i64 10]) (aAj rfl _ _ w.heap.size 73 #[.int .i64 0,.int .i64 0] _ _ rfl (Blk.drew (((K1.o.set 0 (.int .i64 0)).set 1 (.int .i64 0)).alloc _)).out Tryz.underlying73 rfl zW rfl) rfl ⟨rfl,?_⟩
   first
   | exact((((B1.o.alloc B1.o.size _).drew).setCell yL _).setCell yL _)
   | exact((((B1.o.setCell yL _).setCell yL _).alloc zL _).drew)
 rw[if_neg zQ];go_enter Tryz.func223,Tryz.ntmps223;go_wp2_with fail;refine(c.out _).mono ?_;rintro e w1 ⟨rfl,bw⟩;have k1:=Q2.o.below bw.toBelow Q2.o.lt;have B1:=yH (B0.o.trans (bw.mono zV));have d0:=k1.cell 0;have d1:=k1.cell 1;simp at d0 d1;have f1:=k1.frozen;have hz:=k1.lt;have K1:=yH k1;clear k1 bw;go_wp2
 go_region
 all_goals
  go_wp2;refine bodyPost_ret (v:=.tuple #[.agg #[.int .i64 x,.int .i64 y],.int .i64 0]) (aAj rfl _ _ w.heap.size 73 #[.int .i64 x,.int .i64 y] _ _ rfl (Blk.drew (((K1.o.set 0 (.int .i64 x)).set 1 (.int .i64 y)).alloc _)).out Tryz.underlying73 rfl zW rfl) rfl ⟨rfl,?_⟩
  first
  | exact((((B1.o.alloc B1.o.size _).drew).setCell yL _).setCell yL _)
  | exact((((B1.o.setCell yL _).setCell yL _).alloc zL _).drew)
theorem of_rat_d(n d:Int)(w:World)(hn:In64 n)(hd:In64 d):
  Calls Tryz.prog 223 #[.int .i64 n,.int .i64 d] w fun e w'=>e=.returned (ofV n d)∧aAr w.heap.size w w':=by
 by_cases h:n<1∨d<1
 ·exact of_arg_d n d w h
 obtain⟨g0,x0,xn,y0,yd⟩:=gcd_bd (n:=n) (d:=d) zQ zQ;have:=of_two_d n d _ _ _ w zQ zQ hn hd rfl rfl rfl x0 y0 xn yd g0;refine this.mono fun e w' ⟨he,hb⟩=>⟨?_,hb⟩
 rw[he]
 by_cases ho:1099511627776<n/Int.gcd n d∨1099511627776<d/Int.gcd n d
 ·rw[if_pos ho,ofV_over zQ zQ rfl ho]
 rw[if_neg ho,ofV_good zQ zQ rfl ho]
theorem aP8(n d:Int)(w:World)(hn:In64 n)(hd:In64 d):
  Calls Tryz.prog 190 #[.agg #[.int .i64 n,.int .i64 d]] w fun e w'=>e=.returned (.agg #[.int .i64 (alN n d),.int .i64 (alD n d)])∧aAr w.heap.size w w':=by
 have c:=yH (fun w=>of_rat_d n d w hn hd);unfold ofV at c
 have hs:(ofRN n d=n∧ofD n d=d∧alN n d=n∧alD n d=d)∨(ofRN n d≠n∧alN n d=0∧alD n d=0)∨(ofRN n d=n∧ofD n d≠d∧alN n d=0∧alD n d=0):=by
  unfold alN alD
  by_cases hm:MayN n d
  ·rw[(aIs n d).2 hm];obtain⟨a,b⟩:=of_self hm;exact .inl ⟨a,b,rfl,rfl⟩
  have e:mayB n d=false:=xV
  rw[e];rcases of_not hm with⟨a,b,rfl,rfl⟩|h|h
  ·exact .inl ⟨a,b,rfl,rfl⟩
  ·exact .inr (.inl ⟨h,rfl,rfl⟩)
  by_cases h':ofRN n d=n
  ·exact .inr (.inr ⟨h',h,rfl,rfl⟩)
  exact .inr (.inl ⟨h',rfl,rfl⟩)
 generalize ofRN n d=x at *;generalize ofD n d=y at *;generalize ofE n d=z at *;have k1:Blk ((w.alloc (.cells #[.int .i64 n,.int .i64 d] 73)).alloc (.cells #[.int .i64 0,.int .i64 0] 73)) w.heap.size #[.int .i64 n,.int .i64 d] 73:=(Blk.new _ _ _).alloc _;have k2:Blk ((w.alloc (.cells #[.int .i64 n,.int .i64 d] 73)).alloc (.cells #[.int .i64 0,.int .i64 0] 73)) (w.heap.size+1) #[.int .i64 0,.int .i64 0] 73:=pAB _ _ _ zV;have b0:aAr w.heap.size w ((w.alloc (.cells #[.int .i64 n,.int .i64 d] 73)).alloc (.cells #[.int .i64 0,.int .i64 0] 73)):=((aAr.refl _ _).alloc yL _).alloc zV _;have K1:=yH k1;have K2:=yH k2;have B0:=yH b0;clear k1 k2 b0 hn hd;rcases hs with⟨e1,e2,e3,e4⟩|⟨e1,e3,e4⟩|⟨e1,e2,e3,e4⟩
 ·rw[e3,e4];subst e1 e2;clear e3 e4;go_enter Tryz.func190,Tryz.ntmps190;go_wp2_with fail;refine(c.out _).mono ?_;rintro e w1 ⟨rfl,bw⟩;have q1:=K1.o.below bw.toBelow K1.o.lt;have q2:=K2.o.below bw.toBelow K2.o.lt;have B1:=yH (B0.o.trans (bw.mono zU));have d0:=q1.cell 0;have d1:=q1.cell 1;have e0:=q2.cell 0;have e1:=q2.cell 1;simp at d0 d1 e0 e1;have f2:=q2.frozen;have hz:=q1.lt;have hz2:=q2.lt;have Q2:=yH q2;clear q1 q2 bw;go_wp2;refine bodyPost_ret (v:=.agg #[.int .i64 x,.int .i64 y]) (results_cell_row rfl _ _ (w.heap.size+1) 73 #[.int .i64 x,.int .i64 y] (0,0) _ rfl (((Q2.o.set 0 (.int .i64 x)).set 1 (.int .i64 y)).alloc _).out Tryz.underlying73 rfl zW) rfl ⟨zV,?_⟩;exact(((B1.o.setCell zV _).setCell zV _).alloc zL _)
 ·rw[e3,e4];have e5:(x==n)=false:=by simp[e1]
  clear e1 e3 e4;go_enter Tryz.func190,Tryz.ntmps190;go_wp2_with fail;refine(c.out _).mono ?_;rintro e w1 ⟨rfl,bw⟩;have q1:=K1.o.below bw.toBelow K1.o.lt;have q2:=K2.o.below bw.toBelow K2.o.lt;have B1:=yH (B0.o.trans (bw.mono zU));have d0:=q1.cell 0;have d1:=q1.cell 1;have e0:=q2.cell 0;have e1:=q2.cell 1;simp at d0 d1 e0 e1;have f2:=q2.frozen;have hz:=q1.lt;have hz2:=q2.lt;have Q2:=yH q2;clear q1 q2 bw;go_wp2;refine bodyPost_ret (v:=.agg #[.int .i64 0,.int .i64 0]) (results_cell_row rfl _ _ (w.heap.size+1) 73 #[.int .i64 0,.int .i64 0] (0,0) _ rfl (((Q2.o.set 0 (.int .i64 0)).set 1 (.int .i64 0)).alloc _).out Tryz.underlying73 rfl zW) rfl ⟨zV,?_⟩;exact(((B1.o.setCell zV _).setCell zV _).alloc zL _)
 rw[e3,e4];subst e1;have e5:(y==d)=false:=by simp[e2]
 clear e2 e3 e4;go_enter Tryz.func190,Tryz.ntmps190;go_wp2_with fail;refine(c.out _).mono ?_;rintro e w1 ⟨rfl,bw⟩;have q1:=K1.o.below bw.toBelow K1.o.lt;have q2:=K2.o.below bw.toBelow K2.o.lt;have B1:=yH (B0.o.trans (bw.mono zU));have d0:=q1.cell 0;have d1:=q1.cell 1;have e0:=q2.cell 0;have e1:=q2.cell 1;simp at d0 d1 e0 e1;have f2:=q2.frozen;have hz:=q1.lt;have hz2:=q2.lt;have Q2:=yH q2;clear q1 q2 bw;go_wp2;refine bodyPost_ret (v:=.agg #[.int .i64 0,.int .i64 0]) (results_cell_row rfl _ _ (w.heap.size+1) 73 #[.int .i64 0,.int .i64 0] (0,0) _ rfl (((Q2.o.set 0 (.int .i64 0)).set 1 (.int .i64 0)).alloc _).out Tryz.underlying73 rfl zW) rfl ⟨zV,?_⟩;exact(((B1.o.setCell zV _).setCell zV _).alloc zL _)
theorem aR8(n d:Int)(w:World)(hn:In64 n)(hd:In64 d):
  Calls Tryz.prog 148 #[.agg #[.int .i64 n,.int .i64 d]] w fun e w'=>e=.returned (.bool (mayB n d))∧aAr w.heap.size w w':=by
 have c:=yH (fun w=>aP8 n d w hn hd);have B0:=yH ((aAr.refl w.heap.size w).alloc yL (.cells #[.int .i64 n,.int .i64 d] 73));clear hn hd;rcases aPo n d with⟨hm,h1,h2,h3,h4,h5,h6⟩|⟨hm,h1,h2⟩
 ·rw[h1,h2]at c;rw[hm];have e1:(n==0)=false:=zU
  clear h1 h2 h4 h5 h6 h3;go_enter Tryz.func148,Tryz.ntmps148;go_wp2_with fail;refine(c.out _).mono ?_;rintro e w1 ⟨rfl,b1⟩;go_wp2_with fail;go_ret;exact⟨rfl,B0.o.trans (b1.mono zV)⟩
 rw[h1,h2]at c;rw[hm];clear h1 h2;go_enter Tryz.func148,Tryz.ntmps148;go_wp2_with fail;refine(c.out _).mono ?_;rintro e w1 ⟨rfl,b1⟩;go_wp2_with fail;go_ret;exact⟨rfl,B0.o.trans (b1.mono zV)⟩
theorem aP9(an ad bn bd:Int)(w:World)(h1:In64 an)(h2:In64 ad)(h3:In64 bn)(h4:In64 bd):
  Calls Tryz.prog 306 #[.agg #[.int .i64 an,.int .i64 ad],.agg #[.int .i64 bn,.int .i64 bd]] w fun e w'=>e=.returned (.int .i64 (cmpR an ad bn bd))∧aAr w.heap.size w w':=by
 have c1:=yH (fun w=>aR8 an ad w h1 h2);have c2:=yH (fun w=>aR8 bn bd w h3 h4);have k1:Blk ((w.alloc (.cells #[.int .i64 an,.int .i64 ad] 73)).alloc (.cells #[.int .i64 bn,.int .i64 bd] 73)) w.heap.size #[.int .i64 an,.int .i64 ad] 73:=(Blk.new _ _ _).alloc _;have k2:Blk ((w.alloc (.cells #[.int .i64 an,.int .i64 ad] 73)).alloc (.cells #[.int .i64 bn,.int .i64 bd] 73)) (w.heap.size+1) #[.int .i64 bn,.int .i64 bd] 73:=pAB _ _ _ zV;have b0:aAr w.heap.size w ((w.alloc (.cells #[.int .i64 an,.int .i64 ad] 73)).alloc (.cells #[.int .i64 bn,.int .i64 bd] 73)):=((aAr.refl _ _).alloc yL _).alloc zV _;have K1:=yH k1;have K2:=yH k2;have B0:=yH b0;clear k1 k2 b0 h1 h2 h3 h4
 by_cases hm:mayB an ad=true
 ·by_cases hm2:mayB bn bd=true
  ·rw[show cmpR an ad bn bd=cmpI (an*bd) (bn*ad) by unfold cmpR;rw[if_pos ⟨hm,hm2⟩],←aQ7];obtain⟨p1,p2,p3,p4,_⟩:=aE4 hm;obtain⟨q1,q2,q3,q4,_⟩:=aE4 hm2;rw[hm]at c1;rw[hm2]at c2;have u1:IntKind.u64.wrap an=an:=aKx _ ⟨zQ,zQ⟩;have u2:IntKind.u64.wrap ad=ad:=aKx _ ⟨zQ,zQ⟩;have u3:IntKind.u64.wrap bn=bn:=aKx _ ⟨zQ,zQ⟩;have u4:IntKind.u64.wrap bd=bd:=aKx _ ⟨zQ,zQ⟩;have cm1:=yH (fun w=>aG7 an bd w ⟨zQ,zQ⟩ ⟨zQ,zQ⟩);have cm2:=yH (fun w=>aG7 bn ad w ⟨zQ,zQ⟩ ⟨zQ,zQ⟩);have cc:=yH aIt;generalize an*bd=x at *;generalize bn*ad=y at *;clear hm hm2 p1 p2 p3 p4 q1 q2 q3 q4;go_enter Tryz.func306,Tryz.ntmps306;go_wp2_with fail;refine(c1.out _).mono ?_;rintro e w1 ⟨rfl,b1⟩;have B1:=yH (B0.o.trans (b1.mono zU));have r1:=K1.o.below b1.toBelow K1.o.lt;have r2:=K2.o.below b1.toBelow K2.o.lt;have d0:=r1.cell 0;have d1:=r1.cell 1;have e0:=r2.cell 0;have e1:=r2.cell 1;simp at d0 d1 e0 e1;have R1:=yH r1;have R2:=yH r2;clear r1 r2 b1;go_wp2_with fail;refine(c2.out _).mono ?_;rintro e w2 ⟨rfl,b2⟩;have B2:=yH (B1.o.trans (b2.mono B1.o.size));have r1:=R1.o.below b2.toBelow R1.o.lt;have r2:=R2.o.below b2.toBelow R2.o.lt;clear d0 d1 e0 e1;have d0:=r1.cell 0;have d1:=r1.cell 1;have e0:=r2.cell 0;have e1:=r2.cell 1;simp at d0 d1 e0 e1;clear r1 r2 b2;go_wp2_with fail;refine(cm1.out _).mono ?_;rintro e w2 ⟨rfl,rfl⟩;go_wp2_with fail;refine(cm2.out _).mono ?_;rintro e w2 ⟨rfl,rfl⟩;go_wp2_with fail;refine(cc.out _ _ _).mono ?_;rintro e w2 ⟨rfl,rfl⟩;go_wp2_with fail;refine(cc.out _ _ _).mono ?_;rintro e w2 ⟨rfl,rfl⟩;go_wp2_with fail;refine(or_two w2.heap.size _ (cmpI (x/18446744073709551616) (y/18446744073709551616)) (cmpI (x%18446744073709551616) (y%18446744073709551616)) _ zV zV zV).mono ?_;rintro e w2 ⟨rfl,rfl⟩;go_wp2_with fail;go_ret;exact⟨rfl,B2.o.alloc B2.o.size _⟩
  rw[show cmpR an ad bn bd=0 by unfold cmpR;rw[if_neg (by simp[hm2])]];simp only[Bool.not_eq_true]at hm2;rw[hm]at c1;rw[hm2]at c2;clear hm hm2;go_enter Tryz.func306,Tryz.ntmps306;go_wp2_with fail;refine(c1.out _).mono ?_;rintro e w1 ⟨rfl,b1⟩;have B1:=yH (B0.o.trans (b1.mono zU));have r2:=K2.o.below b1.toBelow K2.o.lt;have e0:=r2.cell 0;have e1:=r2.cell 1;simp at e0 e1;clear r2 b1;go_wp2_with fail;refine(c2.out _).mono ?_;rintro e w2 ⟨rfl,b2⟩;go_wp2_with fail;go_ret;exact⟨rfl,B1.o.trans (b2.mono B1.o.size)⟩
 rw[show cmpR an ad bn bd=0 by unfold cmpR;rw[if_neg (by simp[hm])]];simp only[Bool.not_eq_true]at hm;rw[hm]at c1;clear hm;go_enter Tryz.func306,Tryz.ntmps306;go_wp2_with fail;refine(c1.out _).mono ?_;rintro e w1 ⟨rfl,b1⟩;go_wp2_with fail;go_ret;exact⟨rfl,B0.o.trans (b1.mono zU)⟩
end Go.Proofs.YtngnfdnfpiiclaaGreat
namespace Go.Proofs.YtngnfdnfpiiclaaGreat
open Go.RowKit Go.Shelf Go.Sort Go.Lib
def OrdI(W:World)(p q:Int)(g:Nat)(D:Nat→Bool)(w:World):Prop:=aAr W.heap.size W w∧(D 10=true→W.heap.size≤g∧Blk w g #[.int .i64 p,.int .i64 q] 3)
theorem OrdI.step{W w w':World}{p q:Int}{g:Nat}{D:Nat→Bool}{k:Nat}(h:OrdI W p q g D w)(hb:aAr w.heap.size w w')(hk:k≠10):OrdI W p q g (ins k D) w':=by
 have e:¬10=k:=fun e=>hk e.symm
 refine⟨h.1.trans (hb.mono h.1.size),fun d=>?_⟩;simp[ins,e]at d;exact⟨(h.2 d).1,(h.2 d).2.below hb.toBelow (h.2 d).2.lt⟩
theorem porder_any(x y:Of)(w:World)(hx:x.Fits)(hy:y.Fits):Calls Tryz.prog 296 #[.agg #[.int .u64 x.se,.int .u8 x.ow,.int .u8 x.sl,.int .u8 x.bu,.int .i64 x.lf,.int .i64 x.nu,.int .i64 x.de],.agg #[.int .u64 y.se,.int .u8 y.ow,.int .u8 y.sl,.int .u8 y.bu,.int .i64 y.lf,.int .i64 y.nu,.int .i64 y.de]] w fun e w'=>e=.returned (.int .i64 (ordO x y))∧aAr w.heap.size w w':=by
 unfold ordO;have c1:=yH (fun w=>aP9 x.nu x.de y.nu y.de w hx.nu hx.de hy.nu hy.de);have c2:=yH (fun w=>aIt x.se y.se w);clear hx hy;generalize cmpR x.nu x.de y.nu y.de=p at *;generalize cmpI x.se y.se=q at *;go_enter Tryz.func296,Tryz.ntmps296;go_wp2_with fail;have KX:=yH ((Blk.new w #[.int .u64 x.se,.int .u8 x.ow,.int .u8 x.sl,.int .u8 x.bu,.int .i64 x.lf,.int .i64 x.nu,.int .i64 x.de] 197).alloc (.cells #[.int .u64 y.se,.int .u8 y.ow,.int .u8 y.sl,.int .u8 y.bu,.int .i64 y.lf,.int .i64 y.nu,.int .i64 y.de] 197));have KY:=yH (pAB (w.alloc (.cells #[.int .u64 x.se,.int .u8 x.ow,.int .u8 x.sl,.int .u8 x.bu,.int .i64 x.lf,.int .i64 x.nu,.int .i64 x.de] 197)) #[.int .u64 y.se,.int .u8 y.ow,.int .u8 y.sl,.int .u8 y.bu,.int .i64 y.lf,.int .i64 y.nu,.int .i64 y.de] 197 (g:=w.heap.size+1) zV);have B0:=yH (((aAr.refl w.heap.size w).alloc yL (.cells #[.int .u64 x.se,.int .u8 x.ow,.int .u8 x.sl,.int .u8 x.bu,.int .i64 x.lf,.int .i64 x.nu,.int .i64 x.de] 197)).alloc zV (.cells #[.int .u64 y.se,.int .u8 y.ow,.int .u8 y.sl,.int .u8 y.bu,.int .i64 y.lf,.int .i64 y.nu,.int .i64 y.de] 197));generalize ((w.alloc (.cells #[.int .u64 x.se,.int .u8 x.ow,.int .u8 x.sl,.int .u8 x.bu,.int .i64 x.lf,.int .i64 x.nu,.int .i64 x.de] 197)).alloc (.cells #[.int .u64 y.se,.int .u8 y.ow,.int .u8 y.sl,.int .u8 y.bu,.int .i64 y.lf,.int .i64 y.nu,.int .i64 y.de] 197))=W at KX KY B0 ⊢
 refine aA9 zW (fun g:Nat=>[(.pointer (some ⟨w.heap.size,5,none⟩)),(.agg #[.int .i64 x.nu,.int .i64 x.de]),(.pointer (some ⟨w.heap.size+1,5,none⟩)),(.agg #[.int .i64 y.nu,.int .i64 y.de]),(.int .i64 p),(.pointer (some ⟨w.heap.size,0,none⟩)),(.int .u64 x.se),(.pointer (some ⟨w.heap.size+1,0,none⟩)),(.int .u64 y.se),(.int .i64 q),(.slice (some ⟨g,0,none⟩) 2 2),(.int .i64 (orI p q)),(.int .i64 (orI p q))])
  (OrdI W p q) zW 0 ⟨(aAr.refl _ _).drew,zV⟩ ?_
 intro AF hAF;simp only[yG,puts,Act.put,yA,yC,yF,yD,yE]at hAF;have hAF2:_=AF:=funext hAF;subst hAF2;clear hAF;refine⟨?_,?_⟩
 ·simp only[yG,aFp];refine⟨?_,?_,?_,?_,?_,?_,?_,?_,?_,?_,?_,?_,?_,trivial⟩
  ·intro g D w' hD hW hC hI;refine⟨g,fun _ _ _=>rfl,?_⟩;with_reducible refine yO rfl ?_
   have HS:=yH (hI.step (aAr.refl _ _) (k:=0) zX);clear hI hC hW hD;go_wp2_with fail;all_goals first|exact HS|exact⟨rfl,HS⟩|rfl
  ·intro g D w' hD hW hC hI;refine⟨g,fun _ _ _=>rfl,?_⟩;with_reducible refine yO rfl ?_
   have HS:=yH (hI.step (aAr.refl _ _) (k:=1) zX);have hB:=hI.1.toBelow;have kk:=KX.o.below hB KX.o.lt;have d0:=kk.cell 0;have d5:=kk.cell 5;have d6:=kk.cell 6;simp at d0 d5 d6;clear kk;clear hI hC hW hD hB;go_wp2_with fail;all_goals first|exact HS|exact⟨rfl,HS⟩|rfl
  ·intro g D w' hD hW hC hI;refine⟨g,fun _ _ _=>rfl,?_⟩;with_reducible refine yO rfl ?_
   have HS:=yH (hI.step (aAr.refl _ _) (k:=2) zX);clear hI hC hW hD;go_wp2_with fail;all_goals first|exact HS|exact⟨rfl,HS⟩|rfl
  ·intro g D w' hD hW hC hI;refine⟨g,fun _ _ _=>rfl,?_⟩;with_reducible refine yO rfl ?_
   have HS:=yH (hI.step (aAr.refl _ _) (k:=3) zX);have hB:=hI.1.toBelow;have kk:=KY.o.below hB KY.o.lt;have d0:=kk.cell 0;have d5:=kk.cell 5;have d6:=kk.cell 6;simp at d0 d5 d6;clear kk;clear hI hC hW hD hB;go_wp2_with fail;all_goals first|exact HS|exact⟨rfl,HS⟩|rfl
  ·intro g D w' hD hW hC hI;refine⟨g,fun _ _ _=>rfl,?_⟩;with_reducible refine yO rfl ?_
   have HI:=yH hI;clear hI hC hW hD;go_wp2_with fail;refine(c1.out w').mono ?_;rintro e w'' ⟨rfl,hb⟩;exact⟨rfl,HI.o.step hb zX⟩
  ·intro g D w' hD hW hC hI;refine⟨g,fun _ _ _=>rfl,?_⟩;with_reducible refine yO rfl ?_
   have HS:=yH (hI.step (aAr.refl _ _) (k:=5) zX);clear hI hC hW hD;go_wp2_with fail;all_goals first|exact HS|exact⟨rfl,HS⟩|rfl
  ·intro g D w' hD hW hC hI;refine⟨g,fun _ _ _=>rfl,?_⟩;with_reducible refine yO rfl ?_
   have HS:=yH (hI.step (aAr.refl _ _) (k:=6) zX);have hB:=hI.1.toBelow;have kk:=KX.o.below hB KX.o.lt;have d0:=kk.cell 0;have d5:=kk.cell 5;have d6:=kk.cell 6;simp at d0 d5 d6;clear kk;clear hI hC hW hD hB;go_wp2_with fail;all_goals first|exact HS|exact⟨rfl,HS⟩|rfl
  ·intro g D w' hD hW hC hI;refine⟨g,fun _ _ _=>rfl,?_⟩;with_reducible refine yO rfl ?_
   have HS:=yH (hI.step (aAr.refl _ _) (k:=7) zX);clear hI hC hW hD;go_wp2_with fail;all_goals first|exact HS|exact⟨rfl,HS⟩|rfl
  ·intro g D w' hD hW hC hI;refine⟨g,fun _ _ _=>rfl,?_⟩;with_reducible refine yO rfl ?_
   have HS:=yH (hI.step (aAr.refl _ _) (k:=8) zX);have hB:=hI.1.toBelow;have kk:=KY.o.below hB KY.o.lt;have d0:=kk.cell 0;have d5:=kk.cell 5;have d6:=kk.cell 6;simp at d0 d5 d6;clear kk;clear hI hC hW hD hB;go_wp2_with fail;all_goals first|exact HS|exact⟨rfl,HS⟩|rfl
  ·intro g D w' hD hW hC hI;refine⟨g,fun _ _ _=>rfl,?_⟩;with_reducible refine yO rfl ?_
   have HI:=yH hI;clear hI hC hW hD;go_wp2_with fail;refine(c2.out w').mono ?_;rintro e w'' ⟨rfl,rfl⟩;exact⟨rfl,HI.o.step (aAr.refl _ _) zX⟩
  ·intro g D w' hD hW hC hI;have hN:D 11=false:=aAd hC hD 11 zW;have hN2:D 12=false:=aAd hC hD 12 zW;refine⟨w'.heap.size,?_,?_⟩
   ·intro j hj hDj
    match j,hj,hDj with
    | 0,_,_=>rfl
    | 1,_,_=>rfl
    | 2,_,_=>rfl
    | 3,_,_=>rfl
    | 4,_,_=>rfl
    | 5,_,_=>rfl
    | 6,_,_=>rfl
    | 7,_,_=>rfl
    | 8,_,_=>rfl
    | 9,_,_=>rfl
    | 10,_,h=>simp_all
    | 11,_,h=>simp_all
    | 12,_,h=>simp_all
    | j+13,_,_=>rfl
   with_reducible refine yO rfl ?_
   have HS:Hid (OrdI W p q w'.heap.size (ins 10 D) (w'.alloc (.cells #[.int .i64 p,.int .i64 q] 3))):=yH ⟨hI.1.alloc hI.1.size _,fun _=>⟨hI.1.size,Blk.new _ _ _⟩⟩;clear hI hC hW hD hN hN2;go_wp2_with fail;all_goals first|exact HS|exact⟨rfl,HS⟩|rfl
  ·intro g D w' hD hW hC hI;refine⟨g,fun _ _ _=>rfl,?_⟩;with_reducible refine yO rfl ?_
   have hP:D 10=true:=aA8 hC hW zW;have KB:=(hI.2 hP).2;have HO:=yH (or_two g 2 p q w' KB.lt (KB.cell 0) (KB.cell 1));have HI:=yH hI;clear hI hC hW hD KB hP;go_wp2_with fail;refine HO.o.mono ?_;rintro e w'' ⟨rfl,rfl⟩;exact⟨rfl,HI.o.step (aAr.refl _ _) zX⟩
  intro g D w' hD hW hC hI;refine⟨g,fun _ _ _=>rfl,?_⟩;with_reducible refine yO rfl ?_
  have HS:=yH (hI.step (aAr.refl _ _) (k:=12) zX);clear hI hC hW hD;go_wp2_with fail;all_goals first|exact HS|exact⟨rfl,HS⟩|rfl
 intro g D w2 hall hI;have HE:=yH (B0.o.trans (hI.1.mono B0.o.size));clear hI hall;dsimp only;go_wp2_with fail;go_ret;exact⟨rfl,HE.o⟩
def aKw:={ x:Of // x.may∧0≤x.se∧x.se≤18446744073709551615 }
instance:Inhabited aKw:=⟨⟨⟨1,1,1,2,1,1,1⟩,zX⟩⟩
def pAO(x:aKw):List Value:=x.1.vals
def ordG(x y:aKw):Int:=ordO x.1 y.1
theorem ordG_lt(x y:aKw):ltOf ordG x y=true↔ltO x.1 y.1:=by unfold ltOf ordG;rw[decide_eq_true_eq];exact ordO_lt x.2.1 y.2.1
theorem aQa(x y:aKw):ltOf ordG x y=false↔¬ltO x.1 y.1:=by rw[←ordG_lt];simp
theorem swoO:SWO (ltOf ordG) where
 irrefl x:=by rw[aQa];exact ltO_irrefl x.1
 trans x y z h1 h2:=by rw[ordG_lt]at *;exact aRd x.2.1 y.2.1 z.2.1 h1 h2
 ntrans x y z h1 h2:=by rw[aQa]at *;exact ltO_ntrans x.2.1 y.2.1 z.2.1 h1 h2
theorem aR9(ls:List aKw){j:Nat}(h:j<ls.length*7):(flatK pAO 7 ls.toArray)[j]! = (aAb (ls.map (·.1)))[j]'(by rw[aAy,List.length_map];exact h):=by
 rw[get_flatK _ _ _ j y7];have h1:j/7<ls.length:=zQ
 have h2:j%7<7:=Nat.mod_lt _ zQ;have h3:=aAe (ls.map (·.1)) (j/7) (j%7) h2 zR;rw[show j/7*7+j%7=j by omega]at h3;rw[List.getElem?_eq_getElem (by rw[aAy,List.length_map];exact h)]at h3;have h4:(ls.toArray)[j/7]! = ls[j/7]:=by simp[h1]
 rw[h4,List.getElem!_eq_getElem?_getD];unfold pAO;rw[List.getElem_map]at h3;rw[←h3];rfl
theorem holds_offs{w:World}{g:Nat}{cur:Array Value}{e:TypeId}{ls:List aKw}(hb:w.heap[g]? = some (.cells cur e (0,0)))(ht:cur.toList.take (ls.length*7)=aAb (ls.map (·.1))):HoldsK pAO 7 w g 0 ls.toArray:=by
 intro j hj;have hj':j<ls.length*7:=xE
 refine⟨?_,by simp[World.frozen?,hb]⟩;rw[aR9 ls hj'];have h1:(cur.toList.take (ls.length*7))[j]? = (aAb (ls.map (·.1)))[j]? := by rw[ht]
 rw[List.getElem?_take_of_lt hj']at h1;simp only[World.cell?,hb,Nat.zero_add];simp only[Option.isSome_none,Bool.false_eq_true,if_false];rw[←Array.getElem?_toList,h1,List.getElem?_eq_getElem (by rw[aAy,List.length_map];exact hj')];rfl
theorem heap_offs{w:World}{g n:Nat}{os:Array Obj}{cur:Array Value}{e:TypeId}(d:Array aKw)(hb:w.heap[g]? = some (.cells cur e (0,0))):
  (sortWorldK pAO 7 w g 0 n d os).heap[g]? = some (.cells (putCells id 0 (flatK pAO 7 d) cur) e (0,0)):=by
 have hg:g<w.heap.size:=(Array.getElem?_eq_some_iff.1 hb).1;unfold sortWorldK putRowK;rw[heap_grow_old _ _ (v6 hg)];simp[putRow,mapBlock,Go.Sort.ahead,Array.getElem?_modify,hb,onCells]
theorem keep_offs{w:World}{g n:Nat}{os:Array Obj}(d:Array aKw):Keep (·=g) w (sortWorldK pAO 7 w g 0 n d os):=by
 refine⟨rfl,rfl,rfl,vA,fun k hk hne=>?_⟩;unfold sortWorldK putRowK;rw[heap_grow_old _ _ vN];have:g≠k:=fun e=>hne e.symm
 simp[putRow,mapBlock,Go.Sort.ahead,Array.getElem?_modify,this]
theorem take_offs(cur:Array Value)(ls:List aKw)(h:ls.length*7≤cur.size):(putCells id 0 (flatK pAO 7 ls.toArray) cur).toList.take (ls.length*7)=aAb (ls.map (·.1)):=by
 apply List.ext_getElem?;intro j
 by_cases hj:j<ls.length*7
 ·have hf:=aR9 ls hj;rw[List.getElem?_take_of_lt hj,Array.getElem?_toList,List.getElem?_eq_getElem (by rw[aAy,List.length_map];exact hj),←hf];simp[putCells,hj,show j<cur.size by omega]
 rw[List.getElem?_take_eq_none zQ,List.getElem?_eq_none (by rw[aAy,List.length_map];omega)]
theorem aUf{f m:List Of}{d:Array aKw}{ls:List aKw}(hf:ls.map (·.1)=f)(hm:m.Perm f)(hms:m.Pairwise ltO)(hne:f.Pairwise fun x y=>x.se≠y.se)
  (h1:PermIn 0 ls.toArray.size ls.toArray d)(h2:SortedIn (ltOf ordG) 0 ls.toArray.size d):d.toList.map (·.1)=m∧d.size=ls.length:=by
 obtain⟨hs,_,hperm⟩:=h1
 have hpd:d.toList.Perm ls:=by
  have e1:d.extract 0 ls.toArray.size=d:=vJ
  rw[e1,Array.extract_size]at hperm;simpa using hperm
 have hpm:(d.toList.map (·.1)).Perm f:=by rw[←hf];exact hpd.map _
 have hse:(d.toList.map (·.1)).Pairwise fun x y=>x.se≠y.se:=(hpm.symm.pairwise_iff (fun{a b} (h:a.se≠b.se)=>h.symm)).1 hne
 have hso:(d.toList.map (·.1)).Pairwise ltO:=by
  rw[List.pairwise_iff_getElem]at hse ⊢;intro i j hi hj hij;have hi':i<d.size:=xQ
  have hj':j<d.size:=xE
  have h3:=h2 i j (Nat.zero_le _) hij (by rw[←hs];exact hj');rw[getElem!_pos d i hi',getElem!_pos d j hj',aQa]at h3;have h4:=hse i j hi hj hij;simp only[List.getElem_map,Array.getElem_toList]at h4 ⊢;exact ltO_total (fun e=>h4 e.symm) h3
 refine⟨List.Perm.eq_of_pairwise (fun a b _ _ h1 h2=>(ltO_asymm h1 h2).elim) hso hms (hpm.trans hm.symm),v6 hs⟩
theorem aSa:∀{f:List Of},(∀x∈f,x.may∧0≤x.se∧x.se≤18446744073709551615)→∃ls:List aKw,ls.map (·.1)=f
 | [],_=>⟨[],rfl⟩
 | x::r,h=>by
  obtain⟨ls,hl⟩:=aSa (f:=r) (fun y hy=>h y vS);exact⟨⟨x,h x zV⟩::ls,congrArg (List.cons x) hl⟩
theorem sortO_any{w:World}{base:Nat}{v:Value}{f m:List Of}(hg:∀x∈f,x.may∧0≤x.se∧x.se≤18446744073709551615)(hm:m.Perm f)(hms:m.Pairwise ltO)(hne:f.Pairwise fun x y=>x.se≠y.se)(hl:f.length≤1000)(h:w.ownsRow base 197 7 v f.length (aAb f)):
  Calls Tryz.prog 295 #[v,.func (.func 296) #[] #[]] w fun e w'=>e=.returned (.tuple #[])∧w'.ownsRow base 197 7 v m.length (aAb m)∧Keep (fun b=>v.ownBlock=some b) w w':=by
 have hlen:=hm.length_eq;rcases h.2 with⟨rfl,h0⟩|⟨g,cap,cur,rfl,hbase,hb,h1,h2,h3,h4⟩
 ·rw[h0]at hlen;have:m=[]:=List.eq_nil_of_length_eq_zero hlen;subst this;refine(AnyF.slices_SortFunc_none { sortO with } none 0 (.func (.func 296) #[] #[]) w).mono ?_;rintro e w' ⟨rfl,rfl⟩;exact⟨rfl,World.ownsRow_nil _ _ _ _,Keep.refl _ _⟩
 have hgl:g<w.heap.size:=(Array.getElem?_eq_some_iff.1 hb).1;obtain⟨ls,hls⟩:=aSa hg;have hll:ls.length=f.length:=by rw[←hls,List.length_map]
 have eg:∀args w,(callFunc 296 args).run Tryz.prog w=.ok (.enter 296 args) w:=enters_of Tryz.func296 zW rfl;have hcmp:CmpLays Tryz.prog 296 #[] pAO 7 ordG g 0 ls.toArray.size w:=fun m os dk _ x y=>(porder_any x.1 y.1 _ (x.2.1.fits x.2.2) (y.2.1.fits y.2.2)).mono fun e w' ⟨he,hb⟩=>⟨he,hb.grown⟩
 have hc:=AnyQ.slices_SortFunc (P:=Tryz.prog) sortO 7 Tryz.isAgg197 Tryz.sizeOf197 pAO (fun _=>rfl) (fun x u hu=>by simp[pAO,Of.vals]at hu;rcases hu with rfl|rfl|rfl|rfl|rfl|rfl|rfl <;> rfl) ordG swoO 296 #[] g 0 cap ls.toArray w eg hcmp (holds_offs hb (by rw[hll,hls];exact h4)) hgl zU;have hsz:ls.toArray.size=f.length:=by simp[hll]
 rw[hsz]at hc;refine Calls.mono hc ?_;rintro e w' ⟨rfl,d,n,os,hp1,hs1,rfl⟩;obtain⟨hd,hds⟩:=aUf hls hm hms hne (by rw[hsz];exact hp1) (by rw[hsz];exact hs1)
 have hcells:(putCells id 0 (flatK pAO 7 d) cur).toList.take (f.length*7)=aAb m:=by
  have:=take_offs cur d.toList (by rw[Array.length_toList,hds,hll,h3];omega);rw[hd]at this;simpa [hds,hll]using this
 refine⟨rfl,⟨aAy m,.inr ⟨g,cap,_,by rw[hlen],hbase,heap_offs _ hb,zQ,h2,by simp[putCells,h3],by rw[hlen];exact hcells⟩⟩,(keep_offs _).mono fun k _ hk=>by rw[hk];rfl⟩
end Go.Proofs.YtngnfdnfpiiclaaGreat
